/- What the laws lean on, in a few texts (by shake.py): number 4 of 5. -/
import Derived.Test.YtdjbnnjcifgnlaaCp1
import Derived.Test.YtdjbnnjcifgnlaaCp2
import Derived.Test.YtdjbnnjcifgnlaaCp3
import Derived.Lib.BitFns
import Derived.Laws.Bits64b
import Derived.Deep.DeepCutAuto
import Derived.Deep.CutBlock
import Derived.Shelf.Small.Bits
import Derived.Shelf.Strconv.Itoa0
import Derived.Shelf.Bits.Mul64
import Derived.Ground.SlgnProg
import Derived.Shelf.SlicesE.Compact
import Derived.Test.YtdjbnnjcifgnlaaProg
import Derived.Lib.Hide
import Derived.Deep.LoopGhost
import Derived.Deep.OwnRows
import Derived.Deep.RegionHeld3
import Derived.Deep.QuietTactic
import Derived.BigQuiet
import Derived.Maps.AppendAt

namespace Go.Proofs.Ytdjbnnjcifgnlaa
open Go.RowKit Go.Lib Go.Maps
set_option linter.unusedVariables false

/-- The best one of the first k, as it lies. -/
def bV (L : List Od) (last : Int) (k : Nat) : Int := if pB L last k = 0 then 0 else volS L (pB L last k)
def bO (L : List Od) (last : Int) (k : Nat) : Int := if pB L last k = 0 then 0 else ovrS L (pB L last k)
def bY (L : List Od) (last : Int) (k : Nat) : Int := if pB L last k = 0 then 0 else wyN (pB L last k) last
def PrIn (L : List Od) (last : Int) (w wr : World) (k : Nat) : Prop := Below w.heap.size w wr ∧ wr.heap[w.heap.size]? = some (.cells (C4 (pB L last k) (bV L last k) (bO L last k) (bY L last k)) 51 (0, 0))
theorem PrIn.below {L : List Od} {last : Int} {w wr w' : World} {k : Nat} (h : PrIn L last w wr k) (hb : Below wr.heap.size wr w') : PrIn L last w w' k :=
  ⟨h.1.trans (hb.mono h.1.size), (hb.block _ (blk_lt h.2)).trans h.2⟩
theorem pB_no {L : List Od} {last : Int} {k : Nat} (h : ¬ (0 < volS L (L[k]!).price ∧ (pB L last k = 0 ∨ btr L last (L[k]!).price (pB L last k) = true))) : pB L last (k + 1) = pB L last k := by
  show (if _ then _ else _) = _
  exact if_neg h
theorem pB_yes {L : List Od} {last : Int} {k : Nat} (h : 0 < volS L (L[k]!).price) (h2 : pB L last k = 0 ∨ btr L last (L[k]!).price (pB L last k) = true) : pB L last (k + 1) = (L[k]!).price := by
  show (if _ then _ else _) = _
  exact if_pos ⟨h, h2⟩
theorem PrIn.same {L : List Od} {last : Int} {w wr : World} {k : Nat} (h : PrIn L last w wr k) (e : pB L last (k + 1) = pB L last k) : PrIn L last w wr (k + 1) := by
  unfold PrIn bV bO bY; rw [e]; exact h
/-- The better one is put there. -/
theorem PrIn.put {L : List Od} {last : Int} {w wr : World} {k : Nat} {x : Od} (h : PrIn L last w wr k) (hx : L[k]! = x) (hp : 1 ≤ x.price) (h1 : 0 < volS L x.price) (h2 : pB L last k = 0 ∨ btr L last x.price (pB L last k) = true) :
    PrIn L last w (wr.setRow w.heap.size (C4 x.price (volS L x.price) (ovrS L x.price) (wyN x.price last))) (k + 1) := by
  have e := pB_yes (L := L) (last := last) (k := k) (by rw [hx]; exact h1) (by rw [hx]; exact h2)
  rw [hx] at e
  refine ⟨Below.row h.1 (Nat.le_refl _) _, ?_⟩
  unfold bV bO bY
  rw [e, if_neg (by omega), if_neg (by omega), if_neg (by omega)]
  exact row_heap h.2
set_option maxHeartbeats 4000000 in
set_option maxRecDepth 100000 in
theorem price_c (A : Option Addr) (n c : Nat) (L : List Od) (last : Int) (w : World) (HO : Ods w A n L) (hl : InR last) :
    Calls Try.prog 8 #[.slice A n c, .int .i64 last] w fun e w' => e = .returned (.tuple #[.int .i64 (priS L last).1, .int .i64 (priS L last).2]) ∧ Below w.heap.size w w' := by
  have HK := Lib.hid (bookAny_c A n c L w HO)
  cases hbk : bookO L with
  | false =>
    rw [hbk] at HK
    have e : priS L last = (0, 0) := by unfold priS; rw [hbk]; rfl
    rw [e]
    clear HO hl e hbk
    go_enter Try.func8, Try.ntmps8
    go_wp2_with fail
    ((with_reducible refine HK.out.mono ?_); rintro e w1 ⟨rfl, b1⟩)
    go_wp2_with fail
    go_ret2
    exact ⟨rfl, b1⟩
  | true =>
    rw [hbk] at HK
    obtain ⟨h64, hg, _, _⟩ := (book_iff L).1 hbk
    have hn : n ≤ 64 := by rw [← HO.1]; exact h64
    have HL := Lib.hid HO.1
    have HH := Lib.hid HO
    have HG := Lib.hid hg
    have HLast := Lib.hid hl
    have HE : Hid (priS L last = (pB L last n, bV L last n)) := Lib.hid (by unfold priS bV; rw [hbk, if_pos rfl, HO.1])
    clear HO hl hg hbk h64
    go_enter Try.func8, Try.ntmps8
    go_wp2_with fail
    ((with_reducible refine HK.out.mono ?_); rintro e w1 ⟨rfl, b1⟩)
    have HB1 := Lib.hid b1
    clear HK b1
    go_wp2_with fail
    go_loopg [16] n (fun kx s16 wr => ∃ k : Nat, s16 = .int .i64 (k : Int) ∧ k ≤ n ∧ n - k ≤ kx ∧ Hid (PrIn L last w1 wr k))
    case atStart => exact ⟨0, rfl, by omega, by omega, Lib.hid ⟨(Below.refl _ _).alloc (Nat.le_refl _) _, hd_last rfl⟩⟩
    case round =>
      obtain ⟨k, rfl, hk, hkx, hI⟩ := hrel
      by_cases hlt : k < n
      · have hltI : (k : Int) < (n : Int) := by omega
        have hk0 : (0 : Int) ≤ (k : Int) := by omega
        have hO := HH.out.below (HB1.out.trans (hI.out.1.mono HB1.out.size))
        have HOr := Lib.hid hO
        obtain ⟨b, off, rfl, hb, hc⟩ : ∃ b off, A = some ⟨b, off, none⟩ ∧ b < wr.heap.size ∧ ∀ i, i < n → (L[i]!).at wr b (off + i * 6) := by
          rcases hO.2.2.2 with h | h
          · omega
          · exact h
        have hx := hc k hlt
        have hmem : L[k]! ∈ L := by rw [getElem!_pos L k (by rw [HL.out]; exact hlt)]; exact List.getElem_mem _
        have hgx := HG.out _ hmem
        obtain ⟨x, ex⟩ : ∃ x, L[k]! = x := ⟨_, rfl⟩
        rw [ex] at hx hgx
        have HX := Lib.hid ex
        have HGX := Lib.hid (good_qty hgx)
        obtain ⟨wo, hwo⟩ : ∃ wo, wo = wr.alloc (.cells #[.int .u64 x.id, .int .i64 x.acc, .int .i64 x.side, .int .i64 x.price, .int .i64 x.qty, .int .u64 x.seq] 42) := ⟨_, rfl⟩
        have hbo : Below wr.heap.size wr wo := by rw [hwo]; exact (Below.refl _ _).alloc (Nat.le_refl _) _
        have HAT := Lib.hid (at_c (some ⟨b, off, none⟩) n c L x.price last wo (HOr.out.below hbo) hn HG.out HGX.out.2.2.1 HLast.out)
        have hIo := Lib.hid (hI.out.below hbo)
        rw [hwo] at HAT hIo
        clear ex hc hmem hO hgx hbo hwo wo hI
        obtain ⟨x0, x1, x2, x3, x4, x5⟩ := hx
        obtain ⟨v, hv⟩ : ∃ v, v = volS L x.price := ⟨_, rfl⟩
        obtain ⟨q, hq⟩ : ∃ q, q = ovrS L x.price := ⟨_, rfl⟩
        obtain ⟨y, hy⟩ : ∃ y, y = wyN x.price last := ⟨_, rfl⟩
        rw [← hv, ← hq, ← hy] at HAT
        have HV := Lib.hid hv
        have HQ := Lib.hid hq
        have HY := Lib.hid hy
        clear hv hq hy
        by_cases v1 : 0 < v
        · have g1 : decide (0 < v) = true := decide_eq_true v1
          have V1 := Lib.hid v1
          clear v1
          by_cases z : pB L last k = 0
          · have Z := Lib.hid z
            go_wp2_with fail
            ((with_reducible refine HAT.out.mono ?_); rintro e w4 ⟨rfl, k4⟩)
            have hI4 := hIo.out.below k4
            have hlt7 : w1.heap.size < w4.heap.size := blk_lt hI4.2
            clear HAT k4 hIo
            go_upto_region 9 with fail
            obtain ⟨wA, hA⟩ : ∃ wA, wA = w4.alloc (.cells (C4 x.price v q y) 51) := ⟨_, rfl⟩
            have hIA : PrIn L last w1 wA k := by rw [hA]; exact hI4.below ((Below.refl _ _).alloc (Nat.le_refl _) _)
            have hCA : wA.heap[w4.heap.size]? = some (.cells (C4 x.price v q y) 51 (0, 0)) := by rw [hA]; exact hd_last rfl
            rw [← hA]
            obtain ⟨g10, hg10⟩ : ∃ g10, g10 = w4.heap.size := ⟨_, rfl⟩
            rw [← hg10] at hCA ⊢
            have HIA := Lib.hid hIA
            have HBR : Hid (wA.heap[w1.heap.size]? = some (.cells (C4 (pB L last k) (bV L last k) (bO L last k) (bY L last k)) 51 (0, 0))) := Lib.hid hIA.2
            have HCA := Lib.hid hCA
            clear hA hIA hCA hI4 hlt7 hg10
            have n0 : wA.cell? ⟨g10, 0, none⟩ = some (.int .i64 x.price) := by rw [cell_of_row _ _ _ _ _ _ HCA.out]; rfl
            have n1 : wA.cell? ⟨g10, 1, none⟩ = some (.int .i64 v) := by rw [cell_of_row _ _ _ _ _ _ HCA.out]; rfl
            have n2 : wA.cell? ⟨g10, 2, none⟩ = some (.int .i64 q) := by rw [cell_of_row _ _ _ _ _ _ HCA.out]; rfl
            have n3 : wA.cell? ⟨g10, 3, none⟩ = some (.int .i64 y) := by rw [cell_of_row _ _ _ _ _ _ HCA.out]; rfl
            have z1 : bV L last k = 0 := by unfold bV; rw [if_pos z]
            have z2 : bO L last k = 0 := by unfold bO; rw [if_pos z]
            have z3 : bY L last k = 0 := by unfold bY; rw [if_pos z]
            rw [z, z1, z2, z3] at HBR
            clear z z1 z2 z3
            have m0 : wA.cell? ⟨w1.heap.size, 0, none⟩ = some (.int .i64 0) := by rw [cell_of_row _ _ _ _ _ _ HBR.out]; rfl
            have m1 : wA.cell? ⟨w1.heap.size, 1, none⟩ = some (.int .i64 0) := by rw [cell_of_row _ _ _ _ _ _ HBR.out]; rfl
            have m2 : wA.cell? ⟨w1.heap.size, 2, none⟩ = some (.int .i64 0) := by rw [cell_of_row _ _ _ _ _ _ HBR.out]; rfl
            have m3 : wA.cell? ⟨w1.heap.size, 3, none⟩ = some (.int .i64 0) := by rw [cell_of_row _ _ _ _ _ _ HBR.out]; rfl
            have heq := eq_cand 0 0 0 0 0 0 0 0
            have heq2 := eqC 0 0 0 0 0 0 0 0
            rw [show (((0 : Int) == 0) && (((0 : Int) == 0) && (((0 : Int) == 0) && ((0 : Int) == 0)))) = true from rfl] at heq heq2
            go_upto_region 10 with fail
            go_wp2_with (first | ((with_reducible apply storeK); rfl; rfl; rfl; rfl; exact HBR.out; skip))
            have hN : Hid (PrIn L last w1 (wA.setRow w1.heap.size (C4 x.price v q y)) (k + 1)) := Lib.hid (by
              rw [HV.out, HQ.out, HY.out]
              exact HIA.out.put HX.out HGX.out.2.2.1.1 (by rw [← HV.out]; exact V1.out) (.inl Z.out))
            go_roundg (n - (k + 1))
            case measure => omega
            case rel => exact ⟨k + 1, by go_num, by omega, by omega, hN⟩
          · have Z := Lib.hid z
            obtain ⟨pb, hpb⟩ : ∃ pb, pb = pB L last k := ⟨_, rfl⟩
            have HPB := Lib.hid hpb
            have hz1 : (pb == 0) = false := by rw [hpb]; simp [z]
            clear z hpb
            go_wp2_with fail
            ((with_reducible refine HAT.out.mono ?_); rintro e w4 ⟨rfl, k4⟩)
            have hI4 := hIo.out.below k4
            have hlt7 : w1.heap.size < w4.heap.size := blk_lt hI4.2
            clear HAT k4 hIo
            go_upto_region 9 with fail
            obtain ⟨wA, hA⟩ : ∃ wA, wA = w4.alloc (.cells (C4 x.price v q y) 51) := ⟨_, rfl⟩
            have hIA : PrIn L last w1 wA k := by rw [hA]; exact hI4.below ((Below.refl _ _).alloc (Nat.le_refl _) _)
            have hCA : wA.heap[w4.heap.size]? = some (.cells (C4 x.price v q y) 51 (0, 0)) := by rw [hA]; exact hd_last rfl
            rw [← hA]
            obtain ⟨g10, hg10⟩ : ∃ g10, g10 = w4.heap.size := ⟨_, rfl⟩
            rw [← hg10] at hCA ⊢
            have HIA := Lib.hid hIA
            have HBR : Hid (wA.heap[w1.heap.size]? = some (.cells (C4 (pB L last k) (bV L last k) (bO L last k) (bY L last k)) 51 (0, 0))) := Lib.hid hIA.2
            have HCA := Lib.hid hCA
            clear hA hIA hCA hI4 hlt7 hg10
            have n0 : wA.cell? ⟨g10, 0, none⟩ = some (.int .i64 x.price) := by rw [cell_of_row _ _ _ _ _ _ HCA.out]; rfl
            have n1 : wA.cell? ⟨g10, 1, none⟩ = some (.int .i64 v) := by rw [cell_of_row _ _ _ _ _ _ HCA.out]; rfl
            have n2 : wA.cell? ⟨g10, 2, none⟩ = some (.int .i64 q) := by rw [cell_of_row _ _ _ _ _ _ HCA.out]; rfl
            have n3 : wA.cell? ⟨g10, 3, none⟩ = some (.int .i64 y) := by rw [cell_of_row _ _ _ _ _ _ HCA.out]; rfl
            rw [← HPB.out] at HBR
            obtain ⟨bv, hbv⟩ : ∃ bv, bv = bV L last k := ⟨_, rfl⟩
            obtain ⟨bo, hbo⟩ : ∃ bo, bo = bO L last k := ⟨_, rfl⟩
            obtain ⟨by', hby⟩ : ∃ by', by' = bY L last k := ⟨_, rfl⟩
            rw [← hbv, ← hbo, ← hby] at HBR
            have HBV := Lib.hid (And.intro hbv (And.intro hbo hby))
            clear hbv hbo hby
            have m0 : wA.cell? ⟨w1.heap.size, 0, none⟩ = some (.int .i64 pb) := by rw [cell_of_row _ _ _ _ _ _ HBR.out]; rfl
            have m1 : wA.cell? ⟨w1.heap.size, 1, none⟩ = some (.int .i64 bv) := by rw [cell_of_row _ _ _ _ _ _ HBR.out]; rfl
            have m2 : wA.cell? ⟨w1.heap.size, 2, none⟩ = some (.int .i64 bo) := by rw [cell_of_row _ _ _ _ _ _ HBR.out]; rfl
            have m3 : wA.cell? ⟨w1.heap.size, 3, none⟩ = some (.int .i64 by') := by rw [cell_of_row _ _ _ _ _ _ HBR.out]; rfl
            have heq := eq_cand pb bv bo by' 0 0 0 0
            have heq2 := eqC pb bv bo by' 0 0 0 0
            rw [hz1, Bool.false_and] at heq heq2
            have HBT := Lib.hid (better_k v q y x.price bv bo by' pb wA)
            have HBE : Hid (btr L last x.price (pB L last k) = btc v q y x.price bv bo by' pb) := Lib.hid (by
              have e := HBV.out
              unfold bV bO bY at e
              rw [if_neg Z.out, if_neg Z.out, if_neg Z.out] at e
              unfold btr
              rw [HV.out, HQ.out, HY.out, e.1, e.2.1, e.2.2, HPB.out])
            cases hbd : btc v q y x.price bv bo by' pb with
            | true =>
              rw [hbd] at HBT HBE
              clear hbd
              go_upto_region 10 with ((with_reducible refine HBT.out.mono ?_); rintro e w6 ⟨rfl, k6⟩)
              have hI6 := HIA.out.below k6.b
              have HI6 := Lib.hid hI6
              have hC6 : w6.heap[g10]? = some (.cells (C4 x.price v q y) 51 (0, 0)) := (k6.b.block _ (blk_lt HCA.out)).trans HCA.out
              have n0 : w6.cell? ⟨g10, 0, none⟩ = some (.int .i64 x.price) := by rw [cell_of_row _ _ _ _ _ _ hC6]; rfl
              have n1 : w6.cell? ⟨g10, 1, none⟩ = some (.int .i64 v) := by rw [cell_of_row _ _ _ _ _ _ hC6]; rfl
              have n2 : w6.cell? ⟨g10, 2, none⟩ = some (.int .i64 q) := by rw [cell_of_row _ _ _ _ _ _ hC6]; rfl
              have n3 : w6.cell? ⟨g10, 3, none⟩ = some (.int .i64 y) := by rw [cell_of_row _ _ _ _ _ _ hC6]; rfl
              have HBR : Hid (w6.heap[w1.heap.size]? = some (.cells (C4 (pB L last k) (bV L last k) (bO L last k) (bY L last k)) 51 (0, 0))) := Lib.hid hI6.2
              clear hI6 k6 HBT hC6
              go_wp2_with (first | ((with_reducible apply storeK); rfl; rfl; rfl; rfl; exact HBR.out; skip))
              have hN : Hid (PrIn L last w1 (w6.setRow w1.heap.size (C4 x.price v q y)) (k + 1)) := Lib.hid (by
                rw [HV.out, HQ.out, HY.out]
                exact HI6.out.put HX.out HGX.out.2.2.1.1 (by rw [← HV.out]; exact V1.out) (.inr HBE.out))
              go_roundg (n - (k + 1))
              case measure => omega
              case rel => exact ⟨k + 1, by go_num, by omega, by omega, hN⟩
            | false =>
              rw [hbd] at HBT HBE
              clear hbd
              go_wp2_with ((with_reducible refine HBT.out.mono ?_); rintro e w6 ⟨rfl, k6⟩)
              have hN : Hid (PrIn L last w1 w6 (k + 1)) := Lib.hid ((HIA.out.below k6.b).same (pB_no (by
                rw [HX.out]
                rintro ⟨_, h | h⟩
                · exact Z.out h
                · rw [HBE.out] at h; cases h)))
              go_roundg (n - (k + 1))
              case measure => omega
              case rel => exact ⟨k + 1, by go_num, by omega, by omega, hN⟩
        · have g1 : decide (0 < v) = false := decide_eq_false v1
          have V1 := Lib.hid v1
          clear v1
          go_wp2_with fail
          ((with_reducible refine HAT.out.mono ?_); rintro e w4 ⟨rfl, k4⟩)
          have hI4 := hIo.out.below k4
          have hlt7 : w1.heap.size < w4.heap.size := blk_lt hI4.2
          clear HAT k4 hIo
          go_upto_region 9 with fail
          obtain ⟨wA, hA⟩ : ∃ wA, wA = w4.alloc (.cells (C4 x.price v q y) 51) := ⟨_, rfl⟩
          have hIA : PrIn L last w1 wA k := by rw [hA]; exact hI4.below ((Below.refl _ _).alloc (Nat.le_refl _) _)
          have hCA : wA.heap[w4.heap.size]? = some (.cells (C4 x.price v q y) 51 (0, 0)) := by rw [hA]; exact hd_last rfl
          rw [← hA]
          obtain ⟨g10, hg10⟩ : ∃ g10, g10 = w4.heap.size := ⟨_, rfl⟩
          rw [← hg10] at hCA ⊢
          have HIA := Lib.hid hIA
          have HBR : Hid (wA.heap[w1.heap.size]? = some (.cells (C4 (pB L last k) (bV L last k) (bO L last k) (bY L last k)) 51 (0, 0))) := Lib.hid hIA.2
          have HCA := Lib.hid hCA
          clear hA hIA hCA hI4 hlt7 hg10
          have n0 : wA.cell? ⟨g10, 0, none⟩ = some (.int .i64 x.price) := by rw [cell_of_row _ _ _ _ _ _ HCA.out]; rfl
          have n1 : wA.cell? ⟨g10, 1, none⟩ = some (.int .i64 v) := by rw [cell_of_row _ _ _ _ _ _ HCA.out]; rfl
          have n2 : wA.cell? ⟨g10, 2, none⟩ = some (.int .i64 q) := by rw [cell_of_row _ _ _ _ _ _ HCA.out]; rfl
          have n3 : wA.cell? ⟨g10, 3, none⟩ = some (.int .i64 y) := by rw [cell_of_row _ _ _ _ _ _ HCA.out]; rfl
          have hN : Hid (PrIn L last w1 wA (k + 1)) := Lib.hid (HIA.out.same (pB_no (by rw [HX.out, ← HV.out]; exact fun h => absurd V1.out (by omega))))
          go_wp2_with fail
          go_roundg (n - (k + 1))
          case measure => omega
          case rel => exact ⟨k + 1, by go_num, by omega, by omega, hN⟩
      · have hltI : ¬ (k : Int) < (n : Int) := by omega
        obtain rfl : k = n := by omega
        have hB := HB1.out.trans (hI.out.1.mono HB1.out.size)
        have m0 : ∀ j, (wr.drewN j).cell? ⟨w1.heap.size, 0, none⟩ = some (.int .i64 (pB L last k)) := fun j => by
          rw [cell_of_row (wr.drewN j) _ _ _ _ _ hI.out.2]; rfl
        have m1 : ∀ j, (wr.drewN j).cell? ⟨w1.heap.size, 1, none⟩ = some (.int .i64 (bV L last k)) := fun j => by
          rw [cell_of_row (wr.drewN j) _ _ _ _ _ hI.out.2]; rfl
        have HBB := Lib.hid hB
        clear hI hB
        generalize bV L last k = bv at m1 HE
        generalize pB L last k = pb at m0 HE
        go_wp2_with fail
        go_quiet (fail)
        go_wp2_with fail
        go_ret2
        rw [HE.out]
        exact ⟨rfl, below_drewN HBB.out _⟩
end Go.Proofs.Ytdjbnnjcifgnlaa

namespace Go.Proofs.Ytdjbnnjcifgnlaa
open Go.RowKit Go.Lib Go.Maps
set_option linter.unusedVariables false

set_option maxHeartbeats 4000000 in
set_option maxRecDepth 100000 in
theorem rWants_c (x : Od) (p : Int) (w : World) : Calls Try.prog 28 #[.agg #[.int .u64 x.id, .int .i64 x.acc, .int .i64 x.side, .int .i64 x.price, .int .i64 x.qty, .int .u64 x.seq], .int .i64 p] w fun e w' => e = .returned (.bool (wnO x p)) ∧ Gw w w' := by
  by_cases s1 : x.side = 1
  · have g1 : (x.side == 1) = true := by simp [s1]
    have g2 : (x.side == 2) = false := by simp [s1]
    by_cases h : p ≤ x.price
    · have e : wnO x p = true := by unfold wnO croN; rw [g1]; simp [h]
      rw [e]; clear e s1
      go_enter Try.func28, Try.ntmps28
      go_wp2_with fail
      go_ret
      exact ⟨rfl, (Gw.refl w).alloc _⟩
    · have e : wnO x p = false := by unfold wnO croN; rw [g1, g2]; simp; omega
      have g3 : decide (p ≤ x.price) = false := decide_eq_false h
      rw [e]; clear e s1 h
      go_enter Try.func28, Try.ntmps28
      go_wp2_with fail
      go_ret
      exact ⟨rfl, (Gw.refl w).alloc _⟩
  have g1 : (x.side == 1) = false := by simp [s1]
  by_cases s2 : x.side = 2
  · have g2 : (x.side == 2) = true := by simp [s2]
    by_cases h : x.price ≤ p
    · have e : wnO x p = true := by unfold wnO croN; rw [g2]; simp [h]
      have g3 : decide (x.price ≤ p) = true := decide_eq_true h
      rw [e]; clear e s1 s2
      go_enter Try.func28, Try.ntmps28
      go_wp2_with fail
      go_ret
      exact ⟨rfl, (Gw.refl w).alloc _⟩
    · have e : wnO x p = false := by unfold wnO croN; rw [g1, g2]; simp; omega
      have g3 : decide (x.price ≤ p) = false := decide_eq_false h
      rw [e]; clear e s1 s2 h
      go_enter Try.func28, Try.ntmps28
      go_wp2_with fail
      go_ret
      exact ⟨rfl, (Gw.refl w).alloc _⟩
  · have g2 : (x.side == 2) = false := by simp [s2]
    have e : wnO x p = false := by unfold wnO croN; rw [g1, g2]; rfl
    rw [e]; clear e s1 s2
    go_enter Try.func28, Try.ntmps28
    go_wp2_with fail
    go_ret
    exact ⟨rfl, (Gw.refl w).alloc _⟩
set_option maxHeartbeats 4000000 in
set_option maxRecDepth 100000 in
theorem rAll_c (A : Option Addr) (n c : Nat) (L : List Od) (s p : Int) (w : World) (HO : Ods w A n L) (hn : n ≤ 64) (hq : QtyOk L) :
    Calls Try.prog 23 #[.slice A n c, .int .i64 s, .int .i64 p] w fun e w' => e = .returned (.int .i64 (allS s p L)) ∧ Below w.heap.size w w' := by
  have HL := Lib.hid HO.1
  have HH := Lib.hid HO
  have HQ := Lib.hid hq
  obtain ⟨r, hr⟩ : ∃ r, r = allS s p L := ⟨_, rfl⟩
  rw [← hr]
  have HR := Lib.hid hr
  clear HO hq hr
  go_enter Try.func23, Try.ntmps23
  go_wp2_with fail
  go_loopg [7, 8] n (fun kx s7 s8 wr => ∃ (k : Nat) (v : Int), s7 = .int .i64 v ∧ s8 = .int .i64 (k : Int) ∧ k ≤ n ∧ n - k ≤ kx ∧ 0 ≤ v ∧ v ≤ 70368744177664 ∧ Hid (v = allS s p (L.take k)) ∧ Hid (Below w.heap.size w wr))
  case atStart => exact ⟨0, 0, rfl, rfl, by omega, by omega, by omega, by omega, Lib.hid rfl, Lib.hid (Below.refl _ _)⟩
  case round =>
    obtain ⟨k, v, rfl, rfl, hk, hkx, v0, v1, hV, hB⟩ := hrel
    by_cases hlt : k < n
    · have hltI : (k : Int) < (n : Int) := by omega
      have hk0 : (0 : Int) ≤ (k : Int) := by omega
      have hO := HH.out.below hB.out
      obtain ⟨b, off, rfl, hb, hc⟩ : ∃ b off, A = some ⟨b, off, none⟩ ∧ b < wr.heap.size ∧ ∀ i, i < n → (L[i]!).at wr b (off + i * 6) := by
        rcases hO.2.2.2 with h | h
        · omega
        · exact h
      have hx := hc k hlt
      obtain ⟨x, ex⟩ : ∃ x, L[k]! = x := ⟨_, rfl⟩
      rw [ex] at hx
      have HX := Lib.hid ex
      have HKL : Hid (k < L.length) := Lib.hid (by rw [HL.out]; exact hlt)
      have hqx := HQ.out (L[k]!) (by rw [getElem!_pos L k HKL.out]; exact List.getElem_mem _)
      rw [ex] at hqx
      have hq1 := hqx.2
      have hq0 := hqx.1
      have hs1 := sum_fits (HQ.out.take (k + 1)) (by rw [List.length_take]; have := HKL.out; have := HL.out; omega) s p
      have HN : Hid (allS s p (L.take (k + 1)) = v + wnQ x s p) := Lib.hid (by rw [allS_take s p HKL.out, HX.out, hV.out])
      rw [HN.out] at hs1
      clear ex hc hO hqx
      obtain ⟨x0, x1, x2, x3, x4, x5⟩ := hx
      by_cases es : x.side = s
      · have g1 : (x.side == s) = true := by simp [es]
        have ES := Lib.hid es
        clear es
        have HW := Lib.hid (rWants_c x p wr)
        cases hbd : wnO x p with
        | true =>
          rw [hbd] at HW
          have e : wnQ x s p = x.qty := by unfold wnQ; rw [if_pos ⟨ES.out, hbd⟩]
          rw [e] at hs1 HN
          obtain ⟨hs2, hs3⟩ := hs1
          clear e hbd
          go_wp2_with ((with_reducible refine HW.out.mono ?_); rintro e w4 ⟨rfl, k4⟩; have x4 := (k4.b.cell (p := ⟨b, off + k * 6 + 4, none⟩) hb).trans x4)
          have hN := Lib.hid (hB.out.trans (k4.b.mono hB.out.size))
          have HN2 := Lib.hid HN.out.symm
          clear HW k4 hB
          go_roundg (n - (k + 1))
          case measure => omega
          case rel => exact ⟨k + 1, v + x.qty, by go_num, by go_num, by omega, by omega, by omega, by omega, HN2, hN⟩
        | false =>
          rw [hbd] at HW
          have e : wnQ x s p = 0 := by unfold wnQ; rw [if_neg (by rw [hbd]; simp)]
          rw [e] at HN
          clear e hbd hs1
          go_wp2_with ((with_reducible refine HW.out.mono ?_); rintro e w4 ⟨rfl, k4⟩)
          have hN := Lib.hid (hB.out.trans (k4.b.mono hB.out.size))
          have HN2 : Hid (v = allS s p (L.take (k + 1))) := Lib.hid (by rw [HN.out]; omega)
          clear HW k4 hB
          go_roundg (n - (k + 1))
          case measure => omega
          case rel => exact ⟨k + 1, v, rfl, by go_num, by omega, by omega, v0, v1, HN2, hN⟩
      · have g1 : (x.side == s) = false := by simp [es]
        have e : wnQ x s p = 0 := by unfold wnQ; rw [if_neg (fun h => es h.1)]
        rw [e] at HN
        clear e es hs1
        have HN2 : Hid (v = allS s p (L.take (k + 1))) := Lib.hid (by rw [HN.out]; omega)
        go_wp2_with fail
        go_roundg (n - (k + 1))
        case measure => omega
        case rel => exact ⟨k + 1, v, rfl, by go_num, by omega, by omega, v0, v1, HN2, hB⟩
    · have hltI : ¬ (k : Int) < (n : Int) := by omega
      obtain rfl : k = n := by omega
      have htk : L.take k = L := List.take_of_length_le (by rw [HL.out]; exact Nat.le_refl _)
      have HE : Hid (v = r) := Lib.hid (by rw [hV.out, htk, HR.out])
      go_wp2_with fail
      go_ret
      rw [HE.out]
      exact ⟨rfl, hB.out⟩
set_option maxHeartbeats 4000000 in
set_option maxRecDepth 100000 in
theorem rFar_c (a b : Int) (h1 : -9223372036854775807 ≤ a - b ∧ a - b ≤ 9223372036854775807) (w : World) :
    Calls Try.prog 38 #[.int .i64 a, .int .i64 b] w fun e w' => e = .returned (.int .i64 (farN a b)) ∧ w = w' := by
  unfold farN
  obtain ⟨d1, d2⟩ := h1
  by_cases h : a < b
  · rw [if_pos h]
    have e1 : IntKind.i64.wrap (b - a) = b - a := by rw [IntKind.wrap_i64]; omega
    go_enter Try.func38, Try.ntmps38
    go_wp2_with fail
    go_ret
    exact ⟨rfl, rfl⟩
  · rw [if_neg h]
    have e1 : IntKind.i64.wrap (a - b) = a - b := by rw [IntKind.wrap_i64]; omega
    have g1 : decide (a < b) = false := decide_eq_false h
    go_enter Try.func38, Try.ntmps38
    go_wp2_with fail
    go_ret
    exact ⟨rfl, rfl⟩
theorem far_fits {p last : Int} (hp : 1 ≤ p ∧ p ≤ 1099511627776) (h0 : 0 < last) (hl : InR last) : -9223372036854775807 ≤ p - last ∧ p - last ≤ 9223372036854775807 := by unfold InR at hl; omega
theorem far_fits2 {a b : Int} (ha : 0 ≤ a ∧ a ≤ 70368744177664) (hb : 0 ≤ b ∧ b ≤ 70368744177664) : -9223372036854775807 ≤ a - b ∧ a - b ≤ 9223372036854775807 := by omega
set_option maxHeartbeats 4000000 in
set_option maxRecDepth 100000 in
theorem rBetter_c19 (A : Option Addr) (n c : Nat) (L : List Od) (last p q : Int) (w : World) (HO : Ods w A n L) (hn : n ≤ 64) (hq : QtyOk L) (hp : 1 ≤ p ∧ p ≤ 1099511627776) (hp2 : 1 ≤ q ∧ q ≤ 1099511627776) (hl : InR last) :
    Calls Try.prog 22 #[.slice A n c, .int .i64 last, .int .i64 p, .int .i64 q] w fun e w' => e = .returned (.bool (btr L last p q)) ∧ Below w.heap.size w w' := by
  have h64 : L.length ≤ 64 := by rw [HO.1]; exact hn
  have HA : ∀ s z, Hid (∀ wr, Below w.heap.size w wr → Calls Try.prog 23 #[.slice A n c, .int .i64 s, .int .i64 z] wr fun e w' => e = .returned (.int .i64 (allS s z L)) ∧ Below wr.heap.size wr w') := fun s z => Lib.hid fun wr hb => rAll_c A n c L s z wr (HO.below hb) hn hq
  have P1 := HA 1 p
  have P2 := HA 2 p
  have Q1 := HA 1 q
  have Q2 := HA 2 q
  have a1 := sum_fits hq h64 1 p
  have a2 := sum_fits hq h64 2 p
  have b1 := sum_fits hq h64 1 q
  have b2 := sum_fits hq h64 2 q
  have F1 := Lib.hid (rFar_c (allS 1 p L) (allS 2 p L) (far_fits2 a1 a2))
  have F2 := Lib.hid (rFar_c (allS 1 q L) (allS 2 q L) (far_fits2 b1 b2))
  have G1 : Hid (0 < last → ∀ w, Calls Try.prog 38 #[.int .i64 p, .int .i64 last] w fun e w' => e = .returned (.int .i64 (farN p last)) ∧ w = w') := Lib.hid fun h => rFar_c p last (far_fits hp h hl)
  have G2 : Hid (0 < last → ∀ w, Calls Try.prog 38 #[.int .i64 q, .int .i64 last] w fun e w' => e = .returned (.int .i64 (farN q last)) ∧ w = w') := Lib.hid fun h => rFar_c q last (far_fits hp2 h hl)
  obtain ⟨r, hr⟩ : ∃ r, r = btr L last p q := ⟨_, rfl⟩
  rw [← hr]
  unfold btr volS ovrS at hr
  generalize allS 1 p L = d1 at *
  generalize allS 2 p L = d2 at *
  generalize allS 1 q L = d3 at *
  generalize allS 2 q L = d4 at *
  generalize farN d1 d2 = o1 at *
  generalize farN d3 d4 = o2 at *
  obtain ⟨v1, hv1⟩ : ∃ v, v = min d1 d2 := ⟨_, rfl⟩
  obtain ⟨v2, hv2⟩ : ∃ v, v = min d3 d4 := ⟨_, rfl⟩
  have m1 : min d1 d2 = v1 := hv1.symm
  have m2 : min d3 d4 = v2 := hv2.symm
  rw [m1, m2] at hr
  unfold btc at hr
  clear HA HO hq h64 hp hp2 hl a1 a2 b1 b2 hv1 hv2
  have B0 := Lib.hid (Below.refl w.heap.size w)
  by_cases e1 : v1 = v2
  rotate_left
  · rw [if_pos e1] at hr
    have g1 : (v1 != v2) = true := by simp [e1]
    subst hr
    clear e1
    go_enter Try.func22, Try.ntmps22
    go_wp2_with fail
    ((with_reducible refine (P1.out _ B0.out).mono ?_); rintro e w1 ⟨rfl, k1⟩)
    have B1 := Lib.hid (B0.out.trans (k1.mono B0.out.size))
    clear k1
    go_wp2_with fail
    ((with_reducible refine (P2.out _ B1.out).mono ?_); rintro e w2 ⟨rfl, k2⟩)
    have B2 := Lib.hid (B1.out.trans (k2.mono B1.out.size))
    clear k2
    go_wp2_with fail
    ((with_reducible refine (Q1.out _ B2.out).mono ?_); rintro e w3 ⟨rfl, k3⟩)
    have B3 := Lib.hid (B2.out.trans (k3.mono B2.out.size))
    clear k3
    go_wp2_with fail
    ((with_reducible refine (Q2.out _ B3.out).mono ?_); rintro e w4 ⟨rfl, k4⟩)
    have B4 := Lib.hid (B3.out.trans (k4.mono B3.out.size))
    clear k4
    go_wp2_with fail
    go_ret
    exact ⟨rfl, B4.out⟩
  have g1 : (v1 != v2) = false := by simp [e1]
  rw [if_neg (not_not_intro e1)] at hr
  clear e1
  by_cases e2 : o1 = o2
  rotate_left
  · rw [if_pos e2] at hr
    have g2 : (o1 != o2) = true := by simp [e2]
    subst hr
    clear e2
    go_enter Try.func22, Try.ntmps22
    go_wp2_with fail
    ((with_reducible refine (P1.out _ B0.out).mono ?_); rintro e w1 ⟨rfl, k1⟩)
    have B1 := Lib.hid (B0.out.trans (k1.mono B0.out.size))
    clear k1
    go_wp2_with fail
    ((with_reducible refine (P2.out _ B1.out).mono ?_); rintro e w2 ⟨rfl, k2⟩)
    have B2 := Lib.hid (B1.out.trans (k2.mono B1.out.size))
    clear k2
    go_wp2_with fail
    ((with_reducible refine (Q1.out _ B2.out).mono ?_); rintro e w3 ⟨rfl, k3⟩)
    have B3 := Lib.hid (B2.out.trans (k3.mono B2.out.size))
    clear k3
    go_wp2_with fail
    ((with_reducible refine (Q2.out _ B3.out).mono ?_); rintro e w4 ⟨rfl, k4⟩)
    have B4 := Lib.hid (B3.out.trans (k4.mono B3.out.size))
    clear k4
    go_wp2_with fail
    ((with_reducible refine (P1.out _ B4.out).mono ?_); rintro e w5 ⟨rfl, k5⟩)
    have B5 := Lib.hid (B4.out.trans (k5.mono B4.out.size))
    clear k5
    go_wp2_with fail
    ((with_reducible refine (P2.out _ B5.out).mono ?_); rintro e w6 ⟨rfl, k6⟩)
    have B6 := Lib.hid (B5.out.trans (k6.mono B5.out.size))
    clear k6
    go_wp2_with fail
    ((with_reducible refine (F1.out _).mono ?_); rintro e w' ⟨rfl, rfl⟩)
    go_wp2_with fail
    ((with_reducible refine (Q1.out _ B6.out).mono ?_); rintro e w7 ⟨rfl, k7⟩)
    have B7 := Lib.hid (B6.out.trans (k7.mono B6.out.size))
    clear k7
    go_wp2_with fail
    ((with_reducible refine (Q2.out _ B7.out).mono ?_); rintro e w8 ⟨rfl, k8⟩)
    have B8 := Lib.hid (B7.out.trans (k8.mono B7.out.size))
    clear k8
    go_wp2_with fail
    ((with_reducible refine (F2.out _).mono ?_); rintro e w' ⟨rfl, rfl⟩)
    go_wp2_with fail
    go_ret
    exact ⟨rfl, B8.out⟩
  have g2 : (o1 != o2) = false := by simp [e2]
  rw [if_neg (not_not_intro e2)] at hr
  clear e2
  by_cases hl0 : 0 < last
  rotate_left
  · have w1 : wyN p last = 0 := by unfold wyN; rw [if_neg hl0]
    have w2 : wyN q last = 0 := by unfold wyN; rw [if_neg hl0]
    have g3 : decide (0 < last) = false := decide_eq_false hl0
    rw [w1, w2, if_neg (not_not_intro rfl)] at hr
    subst hr
    clear hl0 w1 w2 G1 G2
    go_enter Try.func22, Try.ntmps22
    go_wp2_with fail
    ((with_reducible refine (P1.out _ B0.out).mono ?_); rintro e w1 ⟨rfl, k1⟩)
    have B1 := Lib.hid (B0.out.trans (k1.mono B0.out.size))
    clear k1
    go_wp2_with fail
    ((with_reducible refine (P2.out _ B1.out).mono ?_); rintro e w2 ⟨rfl, k2⟩)
    have B2 := Lib.hid (B1.out.trans (k2.mono B1.out.size))
    clear k2
    go_wp2_with fail
    ((with_reducible refine (Q1.out _ B2.out).mono ?_); rintro e w3 ⟨rfl, k3⟩)
    have B3 := Lib.hid (B2.out.trans (k3.mono B2.out.size))
    clear k3
    go_wp2_with fail
    ((with_reducible refine (Q2.out _ B3.out).mono ?_); rintro e w4 ⟨rfl, k4⟩)
    have B4 := Lib.hid (B3.out.trans (k4.mono B3.out.size))
    clear k4
    go_wp2_with fail
    ((with_reducible refine (P1.out _ B4.out).mono ?_); rintro e w5 ⟨rfl, k5⟩)
    have B5 := Lib.hid (B4.out.trans (k5.mono B4.out.size))
    clear k5
    go_wp2_with fail
    ((with_reducible refine (P2.out _ B5.out).mono ?_); rintro e w6 ⟨rfl, k6⟩)
    have B6 := Lib.hid (B5.out.trans (k6.mono B5.out.size))
    clear k6
    go_wp2_with fail
    ((with_reducible refine (F1.out _).mono ?_); rintro e w' ⟨rfl, rfl⟩)
    go_wp2_with fail
    ((with_reducible refine (Q1.out _ B6.out).mono ?_); rintro e w7 ⟨rfl, k7⟩)
    have B7 := Lib.hid (B6.out.trans (k7.mono B6.out.size))
    clear k7
    go_wp2_with fail
    ((with_reducible refine (Q2.out _ B7.out).mono ?_); rintro e w8 ⟨rfl, k8⟩)
    have B8 := Lib.hid (B7.out.trans (k8.mono B7.out.size))
    clear k8
    go_wp2_with fail
    ((with_reducible refine (F2.out _).mono ?_); rintro e w' ⟨rfl, rfl⟩)
    go_wp2_with fail
    go_ret
    exact ⟨rfl, B8.out⟩
  have w1 : wyN p last = farN p last := by unfold wyN; rw [if_pos hl0]
  have w2 : wyN q last = farN q last := by unfold wyN; rw [if_pos hl0]
  have G3 := Lib.hid (G1.out hl0)
  have G4 := Lib.hid (G2.out hl0)
  have g3 : decide (0 < last) = true := decide_eq_true hl0
  rw [w1, w2] at hr
  generalize farN p last = y1 at hr G3
  generalize farN q last = y2 at hr G4
  clear hl0 w1 w2 G1 G2
  by_cases e3 : y1 = y2
  · rw [if_neg (not_not_intro e3)] at hr
    have g4 : (y1 != y2) = false := by simp [e3]
    subst hr
    clear e3
    go_enter Try.func22, Try.ntmps22
    go_wp2_with fail
    ((with_reducible refine (P1.out _ B0.out).mono ?_); rintro e w1 ⟨rfl, k1⟩)
    have B1 := Lib.hid (B0.out.trans (k1.mono B0.out.size))
    clear k1
    go_wp2_with fail
    ((with_reducible refine (P2.out _ B1.out).mono ?_); rintro e w2 ⟨rfl, k2⟩)
    have B2 := Lib.hid (B1.out.trans (k2.mono B1.out.size))
    clear k2
    go_wp2_with fail
    ((with_reducible refine (Q1.out _ B2.out).mono ?_); rintro e w3 ⟨rfl, k3⟩)
    have B3 := Lib.hid (B2.out.trans (k3.mono B2.out.size))
    clear k3
    go_wp2_with fail
    ((with_reducible refine (Q2.out _ B3.out).mono ?_); rintro e w4 ⟨rfl, k4⟩)
    have B4 := Lib.hid (B3.out.trans (k4.mono B3.out.size))
    clear k4
    go_wp2_with fail
    ((with_reducible refine (P1.out _ B4.out).mono ?_); rintro e w5 ⟨rfl, k5⟩)
    have B5 := Lib.hid (B4.out.trans (k5.mono B4.out.size))
    clear k5
    go_wp2_with fail
    ((with_reducible refine (P2.out _ B5.out).mono ?_); rintro e w6 ⟨rfl, k6⟩)
    have B6 := Lib.hid (B5.out.trans (k6.mono B5.out.size))
    clear k6
    go_wp2_with fail
    ((with_reducible refine (F1.out _).mono ?_); rintro e w' ⟨rfl, rfl⟩)
    go_wp2_with fail
    ((with_reducible refine (Q1.out _ B6.out).mono ?_); rintro e w7 ⟨rfl, k7⟩)
    have B7 := Lib.hid (B6.out.trans (k7.mono B6.out.size))
    clear k7
    go_wp2_with fail
    ((with_reducible refine (Q2.out _ B7.out).mono ?_); rintro e w8 ⟨rfl, k8⟩)
    have B8 := Lib.hid (B7.out.trans (k8.mono B7.out.size))
    clear k8
    go_wp2_with fail
    ((with_reducible refine (F2.out _).mono ?_); rintro e w' ⟨rfl, rfl⟩)
    go_wp2_with fail
    ((with_reducible refine (G3.out _).mono ?_); rintro e w' ⟨rfl, rfl⟩)
    go_wp2_with fail
    ((with_reducible refine (G4.out _).mono ?_); rintro e w' ⟨rfl, rfl⟩)
    go_wp2_with fail
    go_ret
    exact ⟨rfl, B8.out⟩
  · rw [if_pos e3] at hr
    have g4 : (y1 != y2) = true := by simp [e3]
    subst hr
    clear e3
    go_enter Try.func22, Try.ntmps22
    go_wp2_with fail
    ((with_reducible refine (P1.out _ B0.out).mono ?_); rintro e w1 ⟨rfl, k1⟩)
    have B1 := Lib.hid (B0.out.trans (k1.mono B0.out.size))
    clear k1
    go_wp2_with fail
    ((with_reducible refine (P2.out _ B1.out).mono ?_); rintro e w2 ⟨rfl, k2⟩)
    have B2 := Lib.hid (B1.out.trans (k2.mono B1.out.size))
    clear k2
    go_wp2_with fail
    ((with_reducible refine (Q1.out _ B2.out).mono ?_); rintro e w3 ⟨rfl, k3⟩)
    have B3 := Lib.hid (B2.out.trans (k3.mono B2.out.size))
    clear k3
    go_wp2_with fail
    ((with_reducible refine (Q2.out _ B3.out).mono ?_); rintro e w4 ⟨rfl, k4⟩)
    have B4 := Lib.hid (B3.out.trans (k4.mono B3.out.size))
    clear k4
    go_wp2_with fail
    ((with_reducible refine (P1.out _ B4.out).mono ?_); rintro e w5 ⟨rfl, k5⟩)
    have B5 := Lib.hid (B4.out.trans (k5.mono B4.out.size))
    clear k5
    go_wp2_with fail
    ((with_reducible refine (P2.out _ B5.out).mono ?_); rintro e w6 ⟨rfl, k6⟩)
    have B6 := Lib.hid (B5.out.trans (k6.mono B5.out.size))
    clear k6
    go_wp2_with fail
    ((with_reducible refine (F1.out _).mono ?_); rintro e w' ⟨rfl, rfl⟩)
    go_wp2_with fail
    ((with_reducible refine (Q1.out _ B6.out).mono ?_); rintro e w7 ⟨rfl, k7⟩)
    have B7 := Lib.hid (B6.out.trans (k7.mono B6.out.size))
    clear k7
    go_wp2_with fail
    ((with_reducible refine (Q2.out _ B7.out).mono ?_); rintro e w8 ⟨rfl, k8⟩)
    have B8 := Lib.hid (B7.out.trans (k8.mono B7.out.size))
    clear k8
    go_wp2_with fail
    ((with_reducible refine (F2.out _).mono ?_); rintro e w' ⟨rfl, rfl⟩)
    go_wp2_with fail
    ((with_reducible refine (G3.out _).mono ?_); rintro e w' ⟨rfl, rfl⟩)
    go_wp2_with fail
    ((with_reducible refine (G4.out _).mono ?_); rintro e w' ⟨rfl, rfl⟩)
    go_wp2_with fail
    ((with_reducible refine (G3.out _).mono ?_); rintro e w' ⟨rfl, rfl⟩)
    go_wp2_with fail
    ((with_reducible refine (G4.out _).mono ?_); rintro e w' ⟨rfl, rfl⟩)
    go_wp2_with fail
    go_ret
    exact ⟨rfl, B8.out⟩
/-- What Price tells, by the reference's way. -/
theorem pri_ref {L : List Od} {last : Int} (hb : bookO L = true) {m : Nat} (hm : L.length = m + 1) : priS L last = if volS L (rB L last m) = 0 then (0, 0) else (rB L last m, volS L (rB L last m)) := by
  obtain ⟨_, hg, _, _⟩ := (book_iff L).1 hb
  have e := pB_rB last (good_all hg) (fun x hx => (good_qty (hg x hx)).2.2.1.1) m (by omega)
  have hv := (volS_bd (good_all hg) (rB L last m)).1
  unfold priS
  rw [if_pos hb, hm, e]
  by_cases c : volS L (rB L last m) = 0
  · rw [if_pos c, if_neg (by omega)]; rfl
  · have hp : ∀ j, j < L.length → 1 ≤ rB L last j := by
      intro j hj
      induction j with
      | zero => exact (good_qty (hg _ (by rw [getElem!_pos L 0 hj]; exact List.getElem_mem _))).2.2.1.1
      | succ j ihj =>
        show 1 ≤ (if btr L last (L[j + 1]!).price (rB L last j) = true then (L[j + 1]!).price else rB L last j)
        split
        · exact (good_qty (hg _ (by rw [getElem!_pos L (j + 1) hj]; exact List.getElem_mem _))).2.2.1.1
        · exact ihj (by omega)
    have := hp m (by omega)
    rw [if_neg c, if_pos (by omega), if_neg (by omega)]
theorem rB_in {L : List Od} (last : Int) (hg : ∀ x ∈ L, goodO x = true) : ∀ j, j < L.length → 1 ≤ rB L last j ∧ rB L last j ≤ 1099511627776
  | 0, h => (good_qty (hg _ (by rw [getElem!_pos L 0 h]; exact List.getElem_mem _))).2.2.1
  | j + 1, h => by
    show 1 ≤ (if btr L last (L[j + 1]!).price (rB L last j) = true then (L[j + 1]!).price else rB L last j) ∧ (if btr L last (L[j + 1]!).price (rB L last j) = true then (L[j + 1]!).price else rB L last j) ≤ 1099511627776
    split
    · exact (good_qty (hg _ (by rw [getElem!_pos L (j + 1) h]; exact List.getElem_mem _))).2.2.1
    · exact rB_in last hg j (by omega)
set_option maxHeartbeats 4000000 in
set_option maxRecDepth 100000 in
theorem rPrice_c (A : Option Addr) (n c : Nat) (L : List Od) (last : Int) (w : World) (HO : Ods w A n L) (hl : InR last) (hn1 : n ≤ 1000) :
    Calls Try.prog 9 #[.slice A n c, .int .i64 last] w fun e w' => e = .returned (.tuple #[.int .i64 (priS L last).1, .int .i64 (priS L last).2]) ∧ Below w.heap.size w w' := by
  have HK := Lib.hid (rBook_c A n c L w HO hn1)
  cases hbk : bookO L with
  | false =>
    rw [hbk] at HK
    have e : priS L last = (0, 0) := by unfold priS; rw [hbk]; rfl
    rw [e]
    clear HO hl e hbk
    go_enter Try.func9, Try.ntmps9
    go_wp2_with fail
    ((with_reducible refine HK.out.mono ?_); rintro e w1 ⟨rfl, b1⟩)
    go_wp2_with fail
    go_ret2
    exact ⟨rfl, b1⟩
  | true =>
    rw [hbk] at HK
    by_cases h0 : n = 0
    · subst h0
      have e : priS L last = (0, 0) := by unfold priS; rw [hbk, if_pos rfl, HO.1]; rfl
      rw [e]
      clear HO hl e hbk
      go_enter Try.func9, Try.ntmps9
      go_wp2_with fail
      ((with_reducible refine HK.out.mono ?_); rintro e w1 ⟨rfl, b1⟩)
      go_wp2_with fail
      go_ret2
      exact ⟨rfl, b1⟩
    obtain ⟨h64, hg, _, _⟩ := (book_iff L).1 hbk
    have hn : n ≤ 64 := by rw [← HO.1]; exact h64
    have g0 : ((n : Int) == 0) = false := by simp [h0]
    have hn0 : 0 < n := by omega
    have hnI : (0 : Int) < (n : Int) := by omega
    have HL := Lib.hid HO.1
    have HH := Lib.hid HO
    have HG := Lib.hid hg
    have HLast := Lib.hid hl
    have HE := Lib.hid (fun m hm => pri_ref (last := last) hbk (m := m) hm)
    have HAll : Hid (∀ wr s z, Below w.heap.size w wr → Calls Try.prog 23 #[.slice A n c, .int .i64 s, .int .i64 z] wr fun e w' => e = .returned (.int .i64 (allS s z L)) ∧ Below wr.heap.size wr w') := Lib.hid fun wr s z hb => rAll_c A n c L s z wr (HO.below hb) hn (good_all hg)
    clear HO hl hg hbk h64 h0
    go_enter Try.func9, Try.ntmps9
    go_wp2_with fail
    ((with_reducible refine HK.out.mono ?_); rintro e w1 ⟨rfl, b1⟩)
    have HB1 := Lib.hid b1
    have hO1 := HH.out.below b1
    obtain ⟨b, off, rfl, hb, hc⟩ : ∃ b off, A = some ⟨b, off, none⟩ ∧ b < w1.heap.size ∧ ∀ i, i < n → (L[i]!).at w1 b (off + i * 6) := by
      rcases hO1.2.2.2 with h | h
      · omega
      · exact h
    obtain ⟨x, ex⟩ : ∃ x, L[0]! = x := ⟨_, rfl⟩
    have hx := hc 0 hn0
    rw [ex] at hx
    obtain ⟨_, _, _, x3, _, _⟩ := hx
    rw [show off + 0 * 6 + 3 = off + 3 by omega] at x3
    have HX0 := Lib.hid ex
    have HB := Lib.hid hb
    clear HK b1 hO1 hc ex hb
    go_wp2_with fail
    go_loopg [6, 7] n (fun kx s6 s7 wr => ∃ (k : Nat) (p : Int), s6 = .int .i64 p ∧ s7 = .int .i64 (k : Int) ∧ 1 ≤ k ∧ k ≤ n ∧ n - k ≤ kx ∧ Hid (p = rB L last (k - 1)) ∧ Hid (Below w1.heap.size w1 wr))
    case atStart => exact ⟨1, x.price, rfl, rfl, by omega, by omega, by omega, Lib.hid (by show x.price = (L[0]!).price; rw [HX0.out]), Lib.hid (Below.refl _ _)⟩
    case round =>
      obtain ⟨k, p, rfl, rfl, hk1, hk, hkx, hP, hBB⟩ := hrel
      by_cases hlt : k < n
      · have hltI : (k : Int) < (n : Int) := by omega
        have hk0 : (0 : Int) ≤ (k : Int) := by omega
        have hBw := HB1.out.trans (hBB.out.mono HB1.out.size)
        have hO := HH.out.below hBw
        obtain ⟨b', off', e', hb', hc⟩ : ∃ b' off', (some (⟨b, off, none⟩ : Addr)) = some ⟨b', off', none⟩ ∧ b' < wr.heap.size ∧ ∀ i, i < n → (L[i]!).at wr b' (off' + i * 6) := by
          rcases hO.2.2.2 with h | h
          · omega
          · exact h
        injection e' with e'; injection e' with e1 e2; subst e1; subst e2
        have hx := hc k hlt
        obtain ⟨z, ez⟩ : ∃ z, L[k]! = z := ⟨_, rfl⟩
        have hgz : goodO z = true := by rw [← ez, getElem!_pos L k (by rw [HL.out]; exact hlt)]; exact HG.out _ (List.getElem_mem _)
        rw [ez] at hx
        have HZ := Lib.hid ez
        obtain ⟨_, _, _, z3, _, _⟩ := hx
        have hpin : 1 ≤ p ∧ p ≤ 1099511627776 := by rw [hP.out]; exact rB_in last HG.out (k - 1) (by rw [HL.out]; omega)
        have HT := Lib.hid (rBetter_c19 (some ⟨b, off, none⟩) n c L last z.price p wr hO hn (good_all HG.out) (good_qty hgz).2.2.1 hpin HLast.out)
        have HST : Hid (rB L last k = if btr L last z.price p = true then z.price else p) := Lib.hid (by
          obtain ⟨j, rfl⟩ : ∃ j, k = j + 1 := ⟨k - 1, by omega⟩
          rw [hP.out, ← HZ.out]; rfl)
        have hb2 := hb'
        clear ez hc hO hBw hgz hpin
        cases hbd : btr L last z.price p with
        | true =>
          rw [hbd, if_pos rfl] at HST
          rw [hbd] at HT
          clear hbd
          go_wp2_with ((with_reducible refine HT.out.mono ?_); rintro e w4 ⟨rfl, k4⟩; have z3 := (k4.cell (p := ⟨b, off + k * 6 + 3, none⟩) hb2).trans z3)
          have hN := Lib.hid (hBB.out.trans (k4.mono hBB.out.size))
          have HN2 : Hid (z.price = rB L last (k + 1 - 1)) := Lib.hid (by rw [show k + 1 - 1 = k by omega, HST.out])
          clear HT k4 hBB
          go_roundg (n - (k + 1))
          case measure => omega
          case rel => exact ⟨k + 1, z.price, rfl, by go_num, by omega, by omega, by omega, HN2, hN⟩
        | false =>
          rw [hbd, if_neg (by decide)] at HST
          rw [hbd] at HT
          clear hbd
          go_wp2_with ((with_reducible refine HT.out.mono ?_); rintro e w4 ⟨rfl, k4⟩)
          have hN := Lib.hid (hBB.out.trans (k4.mono hBB.out.size))
          have HN2 : Hid (p = rB L last (k + 1 - 1)) := Lib.hid (by rw [show k + 1 - 1 = k by omega, HST.out])
          clear HT k4 hBB
          go_roundg (n - (k + 1))
          case measure => omega
          case rel => exact ⟨k + 1, p, rfl, by go_num, by omega, by omega, by omega, HN2, hN⟩
      · have hltI : ¬ (k : Int) < (n : Int) := by omega
        obtain rfl : k = n := by omega
        have HE2 := Lib.hid (HE.out (k - 1) (by rw [HL.out]; omega))
        rw [← hP.out] at HE2
        unfold volS at HE2
        have hBw := Lib.hid (HB1.out.trans (hBB.out.mono HB1.out.size))
        have C1 := Lib.hid (HAll.out wr 1 p hBw.out)
        have C2 : Hid (∀ wx, Below w.heap.size w wx → Calls Try.prog 23 #[.slice (some ⟨b, off, none⟩) k c, .int .i64 2, .int .i64 p] wx fun e w' => e = .returned (.int .i64 (allS 2 p L)) ∧ Below wx.heap.size wx w') := Lib.hid fun wx hb => HAll.out wx 2 p hb
        clear HE HAll hBB HB1
        generalize allS 1 p L = d1 at HE2 C1
        generalize allS 2 p L = d2 at HE2 C2
        obtain ⟨v, hv⟩ : ∃ v, v = min d1 d2 := ⟨_, rfl⟩
        have m1 : min d1 d2 = v := hv.symm
        rw [m1] at HE2
        clear hv
        by_cases v0 : v = 0
        · have g1 : (v == 0) = true := by simp [v0]
          rw [if_pos v0] at HE2
          clear v0
          go_wp2_with fail
          ((with_reducible refine C1.out.mono ?_); rintro e w4 ⟨rfl, k4⟩)
          have hB4 := Lib.hid (hBw.out.trans (k4.mono hBw.out.size))
          clear k4
          go_wp2_with fail
          ((with_reducible refine (C2.out _ hB4.out).mono ?_); rintro e w5 ⟨rfl, k5⟩)
          have hB5 := Lib.hid (hB4.out.trans (k5.mono hB4.out.size))
          clear k5
          go_wp2_with fail
          go_ret2
          rw [HE2.out]
          exact ⟨rfl, hB5.out⟩
        · have g1 : (v == 0) = false := by simp [v0]
          rw [if_neg v0] at HE2
          clear v0
          go_wp2_with fail
          ((with_reducible refine C1.out.mono ?_); rintro e w4 ⟨rfl, k4⟩)
          have hB4 := Lib.hid (hBw.out.trans (k4.mono hBw.out.size))
          clear k4
          go_wp2_with fail
          ((with_reducible refine (C2.out _ hB4.out).mono ?_); rintro e w5 ⟨rfl, k5⟩)
          have hB5 := Lib.hid (hB4.out.trans (k5.mono hB4.out.size))
          clear k5
          go_wp2_with fail
          go_ret2
          rw [HE2.out]
          exact ⟨rfl, hB5.out⟩
end Go.Proofs.Ytdjbnnjcifgnlaa

namespace Go.Proofs.Ytdjbnnjcifgnlaa

/-- The state of the loop: the guess q, what it leaves r. B is 2^32. -/
structure Digit (y1 y0 u u1 q r : Nat) : Prop where
  sum : u = q * y1 + r
  least : (u * 4294967296 + u1) / (y1 * 4294967296 + y0) ≤ q
  most : q ≤ 4294967297
  small : r < 4294967296
  edge : q = 4294967297 → r + y1 < 4294967296
structure DigitIn (y1 y0 u u1 : Nat) : Prop where
  a : 2147483648 ≤ y1
  b : y1 < 4294967296
  c : y0 < 4294967296
  d : u1 < 4294967296
  e : u < y1 * 4294967296 + y0

theorem digit_start {y1 y0 u u1 : Nat} (h : DigitIn y1 y0 u u1) : Digit y1 y0 u u1 (u / y1) (u % y1) := by
  obtain ⟨a, b, c, d, e⟩ := h
  have hp : 0 < y1 := by omega
  have hm := Nat.mod_lt u hp
  have hs := Nat.div_add_mod u y1
  have hc : y1 * (u / y1) = u / y1 * y1 := Nat.mul_comm _ _
  have hq : u / y1 ≤ 4294967297 := by
    have : u / y1 < 4294967298 := by
      rw [Nat.div_lt_iff_lt_mul hp]; omega
    omega
  refine ⟨by omega, ?_, hq, by omega, ?_⟩
  · rw [Nat.le_div_iff_mul_le hp]
    have h1 := Nat.div_mul_le_self (u * 4294967296 + u1) (y1 * 4294967296 + y0)
    generalize (u * 4294967296 + u1) / (y1 * 4294967296 + y0) = t at *
    rw [Nat.mul_add, ← Nat.mul_assoc] at h1
    generalize t * y1 = p at *
    omega
  · intro h1
    rw [h1] at hc hs
    omega

theorem digit_done {y1 y0 u u1 q r : Nat} (h : DigitIn y1 y0 u u1) (s : Digit y1 y0 u u1 q r) (hn : q * y0 ≤ 4294967296 * r + u1) :
    q = (u * 4294967296 + u1) / (y1 * 4294967296 + y0) := by
  have hp : 0 < y1 * 4294967296 + y0 := by have := h.a; omega
  have hl := s.least
  have : q ≤ (u * 4294967296 + u1) / (y1 * 4294967296 + y0) := by
    rw [Nat.le_div_iff_mul_le hp, Nat.mul_add, ← Nat.mul_assoc]
    have := s.sum
    generalize q * y1 = p at *
    generalize q * y0 = p0 at *
    omega
  omega

theorem digit_small {y1 y0 u u1 : Nat} (h : DigitIn y1 y0 u u1) : (u * 4294967296 + u1) / (y1 * 4294967296 + y0) < 4294967296 := by
  have hp : 0 < y1 * 4294967296 + y0 := by have := h.a; omega
  rw [Nat.div_lt_iff_lt_mul hp]
  have := h.e
  have := h.d
  omega

/-- Where the guess is too great it is lowered. -/
theorem digit_lower {y1 y0 u u1 q r : Nat} (h : DigitIn y1 y0 u u1) (s : Digit y1 y0 u u1 q r) (hn : 4294967296 ≤ q ∨ 4294967296 * r + u1 < q * y0) :
    0 < q ∧ u = (q - 1) * y1 + (r + y1) ∧ (u * 4294967296 + u1) / (y1 * 4294967296 + y0) ≤ q - 1 := by
  have hp : 0 < y1 * 4294967296 + y0 := by have := h.a; omega
  have hq : (u * 4294967296 + u1) / (y1 * 4294967296 + y0) < q := by
    rcases hn with hn | hn
    · have := digit_small h; omega
    · rw [Nat.div_lt_iff_lt_mul hp, Nat.mul_add, ← Nat.mul_assoc]
      have := s.sum
      generalize q * y1 = p at *
      generalize q * y0 = p0 at *
      omega
  generalize (u * 4294967296 + u1) / (y1 * 4294967296 + y0) = t at *
  refine ⟨by omega, ?_, by omega⟩
  have h1 := s.sum
  have h2 : q * y1 = (q - 1) * y1 + y1 := by
    obtain ⟨k, rfl⟩ : ∃ k, q = k + 1 := ⟨q - 1, by omega⟩
    rw [Nat.add_mul]; simp
  generalize q * y1 = p at *
  generalize (q - 1) * y1 = p' at *
  omega

/-- .. and the loop goes on .. -/
theorem digit_next {y1 y0 u u1 q r : Nat} (h : DigitIn y1 y0 u u1) (s : Digit y1 y0 u u1 q r) (hn : 4294967296 ≤ q ∨ 4294967296 * r + u1 < q * y0) (hr : r + y1 < 4294967296) :
    Digit y1 y0 u u1 (q - 1) (r + y1) := by
  obtain ⟨h0, h1, h2⟩ := digit_lower h s hn
  exact ⟨h1, h2, by have := s.most; omega, hr, fun e => by have := s.most; omega⟩

/-- .. or is done. -/
theorem digit_break {y1 y0 u u1 q r : Nat} (h : DigitIn y1 y0 u u1) (s : Digit y1 y0 u u1 q r) (hn : 4294967296 ≤ q ∨ 4294967296 * r + u1 < q * y0) (hr : 4294967296 ≤ r + y1) :
    q - 1 = (u * 4294967296 + u1) / (y1 * 4294967296 + y0) := by
  obtain ⟨h0, h1, h2⟩ := digit_lower h s hn
  have hp : 0 < y1 * 4294967296 + y0 := by have := h.a; omega
  have hb : q - 1 ≤ 4294967295 := by
    have := s.most
    by_cases e : q = 4294967297
    · have := s.edge e; omega
    · omega
  have : q - 1 ≤ (u * 4294967296 + u1) / (y1 * 4294967296 + y0) := by
    rw [Nat.le_div_iff_mul_le hp, Nat.mul_add, ← Nat.mul_assoc]
    have h3 : (q - 1) * y0 ≤ 4294967295 * 4294967295 := Nat.mul_le_mul hb (by have := h.c; omega)
    generalize (q - 1) * y1 = p at *
    generalize (q - 1) * y0 = p0 at *
    omega
  omega
end Go.Proofs.Ytdjbnnjcifgnlaa

namespace Go.Proofs.Ytdjbnnjcifgnlaa

theorem wrapN (x : Int) : ∃ c : Nat, IntKind.u64.wrap x = (c : Int) ∧ (c : Int) = x % 18446744073709551616 ∧ c < 18446744073709551616 := by
  refine ⟨(x % 18446744073709551616).toNat, ?_, ?_, ?_⟩
  · rw [IntKind.wrap_u64]; omega
  · omega
  · omega

/-- The digit that is told, and what is left. -/
theorem left_of {y1 y0 u u1 c1 c2 c3 c4 Y t : Nat} (h : DigitIn y1 y0 u u1) (hY : Y = y1 * 4294967296 + y0) (ht : t = (u * 4294967296 + u1) / Y) (hY2 : Y < 18446744073709551616)
    (h1 : (c1 : Int) = ((u : Int) * 4294967296) % 18446744073709551616) (h2 : (c2 : Int) = ((c1 : Int) + u1) % 18446744073709551616) (h3 : (c3 : Int) = ((t : Int) * Y) % 18446744073709551616) (h4 : (c4 : Int) = ((c2 : Int) - c3) % 18446744073709551616) :
    c4 = (u * 4294967296 + u1) % Y := by
  have hp : 0 < Y := by have := h.a; omega
  have hm := Nat.mod_lt (u * 4294967296 + u1) hp
  have hd := Nat.div_add_mod (u * 4294967296 + u1) Y
  rw [← ht, Nat.mul_comm Y t] at hd
  generalize (u * 4294967296 + u1) % Y = m at *
  have e : (t : Int) * (Y : Int) = ((t * Y : Nat) : Int) := (Int.natCast_mul _ _).symm
  rw [e] at h3
  generalize t * Y = p at *
  omega

/-- The second digit's state, behind the first. -/
theorem digit_second {y1 y0 u u1 u0 : Nat} (h : DigitIn y1 y0 u u1) (h0 : u0 < 4294967296) : DigitIn y1 y0 ((u * 4294967296 + u1) % (y1 * 4294967296 + y0)) u0 :=
  ⟨h.a, h.b, h.c, h0, Nat.mod_lt _ (by have := h.a; omega)⟩

/-- Both digits, and what is left, are those of the number without the shift. -/
theorem both_of {hi lo y s Y u v u1 u0 t1 m t0 m0 : Nat} (hY : Y = y * 2 ^ s) (hp : 0 < y)
    (hu : u = (hi * 18446744073709551616 + lo) * 2 ^ s / 18446744073709551616) (hv : v = (hi * 18446744073709551616 + lo) * 2 ^ s % 18446744073709551616)
    (h1 : u1 = v / 4294967296) (h0 : u0 = v % 4294967296)
    (ht1 : t1 = (u * 4294967296 + u1) / Y) (hm : m = (u * 4294967296 + u1) % Y) (ht0 : t0 = (m * 4294967296 + u0) / Y) (hm0 : m0 = (m * 4294967296 + u0) % Y) :
    t1 * 4294967296 + t0 = (hi * 18446744073709551616 + lo) / y ∧ m0 / 2 ^ s = (hi * 18446744073709551616 + lo) % y := by
  have hq : 0 < 2 ^ s := Nat.two_pow_pos s
  have hYp : 0 < Y := by rw [hY]; exact Nat.mul_pos hp hq
  obtain ⟨n, hn⟩ : ∃ n, n = hi * 18446744073709551616 + lo := ⟨_, rfl⟩
  rw [← hn] at hu hv ⊢
  have e1 := Nat.div_add_mod (n * 2 ^ s) 18446744073709551616
  have e2 := Nat.div_add_mod (u * 4294967296 + u1) Y
  have e3 := Nat.div_add_mod (m * 4294967296 + u0) Y
  have l3 := Nat.mod_lt (m * 4294967296 + u0) hYp
  rw [← ht1, ← hm] at e2
  rw [← ht0, ← hm0] at e3
  rw [← hm0] at l3
  rw [← hu, ← hv] at e1
  have key : n * 2 ^ s = Y * (t1 * 4294967296 + t0) + m0 := by
    rw [Nat.mul_add, ← Nat.mul_assoc]
    generalize Y * t1 = p1 at *
    generalize Y * t0 = p0 at *
    omega
  have dq : (n * 2 ^ s) / Y = t1 * 4294967296 + t0 := by
    rw [key, Nat.mul_add_div hYp, Nat.div_eq_of_lt l3, Nat.add_zero]
  have dm : (n * 2 ^ s) % Y = m0 := by
    rw [key, Nat.mul_add_mod, Nat.mod_eq_of_lt l3]
  rw [hY, Nat.mul_div_mul_right _ _ hq] at dq
  rw [hY, Nat.mul_mod_mul_right] at dm
  exact ⟨dq.symm, by rw [← dm, Nat.mul_div_cancel _ hq]⟩

theorem aux_bounds : ∀ f x : Nat, x < 2 ^ f → x ≠ 0 → 0 < Lib.bitLenAux f x ∧ 2 ^ (Lib.bitLenAux f x - 1) ≤ x ∧ x < 2 ^ Lib.bitLenAux f x
  | 0, x => fun h h0 => by simp at h; omega
  | f + 1, x => fun h h0 => by
    simp only [Lib.bitLenAux, if_neg h0]
    by_cases h1 : x / 2 = 0
    · have : x = 1 := by omega
      subst this
      cases f <;> simp [Lib.bitLenAux]
    · obtain ⟨a, b, c⟩ := aux_bounds f (x / 2) (by rw [Nat.pow_succ] at h; omega) h1
      generalize Lib.bitLenAux f (x / 2) = k at *
      obtain ⟨j, rfl⟩ : ∃ j, k = j + 1 := ⟨k - 1, by omega⟩
      have e : 1 + (j + 1) - 1 = j + 1 := by omega
      have e2 : 1 + (j + 1) = (j + 1) + 1 := by omega
      rw [e, e2, Nat.pow_succ 2 (j + 1), Nat.pow_succ 2 j]
      rw [Nat.pow_succ] at c
      simp only [Nat.add_sub_cancel] at b
      generalize 2 ^ j = p at *
      omega

/-- The shift of Div64, in plain numbers. -/
theorem shift_bits {y s : Nat} (hp : 0 < y) (hy : y < 2 ^ 64) (hs : s = 64 - Lib.bitLen y) : s < 64 ∧ 2 ^ 63 ≤ y * 2 ^ s ∧ y * 2 ^ s < 2 ^ 64 := by
  obtain ⟨a, b, c⟩ := aux_bounds 64 y hy (by omega)
  have hl := Lib.bitLen_le y 64 (by omega) hy
  have hs' : s = 64 - Lib.bitLenAux 64 y := hs
  have hl' : Lib.bitLenAux 64 y ≤ 64 := hl
  clear hs hl
  generalize Lib.bitLenAux 64 y = k at *
  refine ⟨by omega, ?_, ?_⟩
  · have : 2 ^ 63 = 2 ^ (k - 1) * 2 ^ s := by rw [← Nat.pow_add]; congr 1; omega
    rw [this]
    exact Nat.mul_le_mul_right _ b
  · have : 2 ^ 64 = 2 ^ k * 2 ^ s := by rw [← Nat.pow_add]; congr 1; omega
    rw [this]
    exact Nat.mul_lt_mul_of_pos_right c (Nat.two_pow_pos s)

theorem and_low {v : Nat} (hv : v < 18446744073709551616) : bits .and .u64 (v : Int) 4294967295 = ((v % 4294967296 : Nat) : Int) := by
  have := bits_and_u64_nat v 4294967295 hv (by omega)
  rw [show ((4294967295 : Nat) : Int) = 4294967295 from rfl] at this
  rw [this]
  have e := Nat.and_two_pow_sub_one_eq_mod v 32
  rw [show (2 : Nat) ^ 32 - 1 = 4294967295 from rfl, show (2 : Nat) ^ 32 = 4294967296 from rfl] at e
  rw [e]

/-- hi and lo, shifted together. -/
theorem or_parts {hi lo s : Nat} (hs : s < 64) (hlo : lo < 18446744073709551616) (hh : hi * 2 ^ s < 18446744073709551616) :
    bits .or .u64 ((hi * 2 ^ s : Nat) : Int) ((lo / 2 ^ (64 - s) : Nat) : Int) = (((hi * 18446744073709551616 + lo) * 2 ^ s / 18446744073709551616 : Nat) : Int) := by
  have hq : 0 < 2 ^ s := Nat.two_pow_pos s
  have hr : 0 < 2 ^ (64 - s) := Nat.two_pow_pos _
  have hB : 18446744073709551616 = 2 ^ (64 - s) * 2 ^ s := by
    rw [← Nat.pow_add, show 64 - s + s = 64 by omega]
  have hL : lo / 2 ^ (64 - s) < 2 ^ s := by
    rw [Nat.div_lt_iff_lt_mul hr, Nat.mul_comm, ← hB]; exact hlo
  have hL2 : lo / 2 ^ (64 - s) < 18446744073709551616 := Nat.lt_of_le_of_lt (Nat.div_le_self _ _) hlo
  rw [bits_or_u64_nat _ _ hh hL2]
  congr 1
  rw [Nat.mul_comm hi, ← Nat.two_pow_add_eq_or_of_lt hL hi]
  have e1 : (hi * 18446744073709551616 + lo) * 2 ^ s = 18446744073709551616 * (2 ^ s * hi) + lo * 2 ^ s := by
    rw [Nat.add_mul, Nat.mul_comm hi, Nat.mul_assoc, Nat.mul_comm hi]
  rw [e1, Nat.mul_add_div (by omega)]
  congr 1
  rw [hB, Nat.mul_div_mul_right _ _ hq]

/-- .. and lo alone, shifted: what is below. -/
theorem low_part {hi lo s : Nat} : lo * 2 ^ s % 18446744073709551616 = (hi * 18446744073709551616 + lo) * 2 ^ s % 18446744073709551616 := by
  have e1 : (hi * 18446744073709551616 + lo) * 2 ^ s = 18446744073709551616 * (2 ^ s * hi) + lo * 2 ^ s := by
    rw [Nat.add_mul, Nat.mul_comm hi, Nat.mul_assoc, Nat.mul_comm hi]
  rw [e1, Nat.mul_add_mod]
end Go.Proofs.Ytdjbnnjcifgnlaa

namespace Go.Proofs.Ytdjbnnjcifgnlaa
open Go.RowKit

theorem u64_eq {a b : Int} (h : a = b) : Value.int .u64 a = .int .u64 b := by rw [h]
theorem wrap_prod {q y0 p : Nat} (hp : p = q * y0) (hq : q ≤ 4294967297) (h0 : y0 < 4294967296) : IntKind.u64.wrap ((q : Int) * (y0 : Int)) = (p : Int) := by
  rw [IntKind.wrap_u64, ← Int.natCast_mul, ← hp]
  have h1 : q * y0 ≤ 4294967297 * 4294967295 := Nat.mul_le_mul hq (by omega)
  omega

set_option maxHeartbeats 4000000 in
set_option maxRecDepth 100000 in
theorem Div64_core (hi lo y s Y y1 y0 H L u v u1 u0 g gy r t1 c1 c2 c3 m g2 gy2 r2 t0 d0 d1 d2 d3 d4 d5 m0 : Nat) (h0 : 0 < hi) (hlt : hi < y) (hy : y < 2 ^ 64) (hlo : lo < 2 ^ 64) (hs : s < 64)
    (E1 : IntKind.u64.wrap ((y : Int) * 2 ^ s) = (Y : Int)) (E2 : (Y : Int) / 4294967296 = (y1 : Int)) (E3 : bits .and .u64 (Y : Int) 4294967295 = (y0 : Int))
    (E4 : IntKind.u64.wrap ((hi : Int) * 2 ^ s) = (H : Int)) (E5 : (lo : Int) / 2 ^ (64 - s) = (L : Int)) (E6 : bits .or .u64 (H : Int) (L : Int) = (u : Int))
    (E7 : IntKind.u64.wrap ((lo : Int) * 2 ^ s) = (v : Int)) (E8 : (v : Int) / 4294967296 = (u1 : Int)) (E9 : bits .and .u64 (v : Int) 4294967295 = (u0 : Int))
    (E10 : (u : Int) / (y1 : Int) = (g : Int)) (E11 : IntKind.u64.wrap (g : Int) = (g : Int)) (E12 : IntKind.u64.wrap ((g : Int) * (y1 : Int)) = (gy : Int)) (E13 : IntKind.u64.wrap ((u : Int) - (gy : Int)) = (r : Int))
    (D1 : DigitIn y1 y0 u u1) (S1 : Digit y1 y0 u u1 g r) (T1 : t1 = (u * 4294967296 + u1) / (y1 * 4294967296 + y0))
    (E14 : IntKind.u64.wrap ((u : Int) * 4294967296) = (c1 : Int)) (E15 : IntKind.u64.wrap ((c1 : Int) + (u1 : Int)) = (c2 : Int)) (E16 : IntKind.u64.wrap ((t1 : Int) * (Y : Int)) = (c3 : Int)) (E17 : IntKind.u64.wrap ((c2 : Int) - (c3 : Int)) = (m : Int))
    (E18 : (m : Int) / (y1 : Int) = (g2 : Int)) (E19 : IntKind.u64.wrap (g2 : Int) = (g2 : Int)) (E20 : IntKind.u64.wrap ((g2 : Int) * (y1 : Int)) = (gy2 : Int)) (E21 : IntKind.u64.wrap ((m : Int) - (gy2 : Int)) = (r2 : Int))
    (D2 : DigitIn y1 y0 m u0) (S2 : Digit y1 y0 m u0 g2 r2) (T2 : t0 = (m * 4294967296 + u0) / (y1 * 4294967296 + y0))
    (E22 : IntKind.u64.wrap ((t1 : Int) * 4294967296) = (d0 : Int)) (E23 : IntKind.u64.wrap ((d0 : Int) + (t0 : Int)) = (d1 : Int))
    (E24 : IntKind.u64.wrap ((m : Int) * 4294967296) = (d2 : Int)) (E25 : IntKind.u64.wrap ((d2 : Int) + (u0 : Int)) = (d3 : Int)) (E26 : IntKind.u64.wrap ((t0 : Int) * (Y : Int)) = (d4 : Int)) (E27 : IntKind.u64.wrap ((d3 : Int) - (d4 : Int)) = (d5 : Int)) (E28 : (d5 : Int) / 2 ^ s = (m0 : Int))
    (hu : u < 18446744073709551616) (hm : m < 18446744073709551616)
    (HZ : ∀ w, Calls Try.prog 89 #[.int .u64 (y : Int)] w fun e w' => e = .returned (.int .i64 (s : Int)) ∧ w = w') (w : World) :
    Calls Try.prog 60 #[.int .u64 (hi : Int), .int .u64 (lo : Int), .int .u64 (y : Int)] w fun e w' => e = .returned (.tuple #[.int .u64 (d1 : Int), .int .u64 (m0 : Int)]) ∧ w = w' := by
  have HZ' := Lib.hid HZ; clear HZ
  have D1' := Lib.hid D1
  have D2' := Lib.hid D2
  have S1' := Lib.hid S1; clear S1
  have S2' := Lib.hid S2; clear S2
  have T1' := Lib.hid T1; clear T1
  have T2' := Lib.hid T2; clear T2
  have e0 : ((y : Int) == 0) = false := by simp; omega
  have e1 : ((hi : Int) == 0) = false := by simp; omega
  have e2 : ((y1 : Int) == 0) = false := by have := D1.a; simp; omega
  have b0 : (1 : Int) ≤ (hi : Int) := by omega
  have b1 : (hi : Int) < (y : Int) := by omega
  have b2 : (y : Int) ≤ 18446744073709551615 := by omega
  have b3 : (lo : Int) ≤ 18446744073709551615 := by omega
  have b4 : (0 : Int) ≤ (lo : Int) := by omega
  have b5 : (s : Int) < 64 := by omega
  have b6 : (2147483648 : Int) ≤ y1 := by have := D1.a; omega
  have b7 : (y1 : Int) ≤ 4294967295 := by have := D1.b; omega
  have b8 : (u : Int) ≤ 18446744073709551615 := by omega
  have b9 : (y0 : Int) ≤ 4294967295 := by have := D1.c; omega
  have b10 : (u1 : Int) ≤ 4294967295 := by have := D1.d; omega
  have b11 : (u0 : Int) ≤ 4294967295 := by have := D2.d; omega
  have b12 : (m : Int) ≤ 18446744073709551615 := by omega
  have c0 : y0 < 4294967296 := D1.c
  clear D1 D2
  go_enter Try.func60, Try.ntmps60
  go_upto_block 0 with (first | (go_at_call 89; refine (HZ'.out _).mono ?_; rintro e w' ⟨rfl, rfl⟩))
  go_cut [15, 16] (fun s15 s16 wx => s15 = .int .u64 (t1 : Int) ∧ wx = w)
  case first =>
    go_wp2_with fail
    go_loop [15, 16] (fun a b => ∃ q r : Nat, a = .int .u64 (q : Int) ∧ b = .int .u64 (r : Int) ∧ Digit y1 y0 u u1 q r) (fun a _ => (intOf a).toNat)
    case atStart => exact ⟨g, r, rfl, rfl, S1'.out⟩
    case round =>
      obtain ⟨q, r, rfl, rfl, hq⟩ := hrel
      obtain ⟨p, hp⟩ : ∃ p : Nat, p = q * y0 := ⟨_, rfl⟩
      have P1 : IntKind.u64.wrap ((q : Int) * (y0 : Int)) = (p : Int) := wrap_prod hp hq.most c0
      have c1 : (r : Int) ≤ 4294967295 := by have := hq.small; omega
      have c2 : (q : Int) ≤ 4294967297 := by have := hq.most; omega
      have HQ := Lib.hid hq; clear hq
      have HP := Lib.hid hp; clear hp
      by_cases hA : 4294967296 ≤ q ∨ 4294967296 * r + u1 < q * y0
      · have hA' := Lib.hid hA
        have hl := (digit_lower D1'.out HQ.out hA).1
        have c3 : (1 : Int) ≤ (q : Int) := by omega
        rw [← HP.out] at hA
        by_cases hR : r + y1 < 4294967296
        · have c4 : decide ((4294967296 : Int) ≤ (r : Int) + (y1 : Int)) = false := decide_eq_false (by omega)
          have NX := Lib.hid (digit_next D1'.out HQ.out hA'.out hR)
          clear hR hl
          by_cases hB : 4294967296 ≤ q
          · have c5 : (4294967296 : Int) ≤ (q : Int) := by omega
            clear hA
            go_wp2_with fail
            go_round
            case rel => exact ⟨q - 1, r + y1, u64_eq (by omega), u64_eq (by omega), NX.out⟩
            case measure => simp [intOf]; omega
          · have c5 : (q : Int) < 4294967296 := by omega
            have c6 : 4294967296 * (r : Int) + (u1 : Int) < (p : Int) := by omega
            clear hA
            go_wp2_with fail
            go_round
            case rel => exact ⟨q - 1, r + y1, u64_eq (by omega), u64_eq (by omega), NX.out⟩
            case measure => simp [intOf]; omega
        · have c4 : (4294967296 : Int) ≤ (r : Int) + (y1 : Int) := by omega
          have NX := Lib.hid (digit_break D1'.out HQ.out hA'.out (by omega))
          clear hR hl
          by_cases hB : 4294967296 ≤ q
          · have c5 : (4294967296 : Int) ≤ (q : Int) := by omega
            clear hA
            go_wp2_with fail
            go_meet
            case rel => exact ⟨u64_eq (by have := NX.out; rw [T1'.out]; omega), rfl⟩
          · have c5 : (q : Int) < 4294967296 := by omega
            have c6 : 4294967296 * (r : Int) + (u1 : Int) < (p : Int) := by omega
            clear hA
            go_wp2_with fail
            go_meet
            case rel => exact ⟨u64_eq (by have := NX.out; rw [T1'.out]; omega), rfl⟩
      · have c5 : decide ((4294967296 : Int) ≤ (q : Int)) = false := decide_eq_false (by omega)
        have c6 : decide (4294967296 * (r : Int) + (u1 : Int) < (p : Int)) = false := decide_eq_false (by have := HP.out; omega)
        have NX := Lib.hid (digit_done D1'.out HQ.out (by omega))
        clear hA
        go_wp2_with fail
        go_meet
        case rel => exact ⟨u64_eq (by rw [T1'.out, ← NX.out]), rfl⟩
  case rest =>
    obtain ⟨rfl, rfl⟩ := hcut
    go_upto_block 2 with fail
    go_cut [18, 16] (fun s18 s16 wx => s18 = .int .u64 (t0 : Int) ∧ wx = wc)
    case first =>
      go_wp2_with fail
      go_loop [18, 16] (fun a b => ∃ q r : Nat, a = .int .u64 (q : Int) ∧ b = .int .u64 (r : Int) ∧ Digit y1 y0 m u0 q r) (fun a _ => (intOf a).toNat)
      case atStart => exact ⟨g2, r2, rfl, rfl, S2'.out⟩
      case round =>
        obtain ⟨q, r, rfl, rfl, hq⟩ := hrel
        obtain ⟨p, hp⟩ : ∃ p : Nat, p = q * y0 := ⟨_, rfl⟩
        have P1 : IntKind.u64.wrap ((q : Int) * (y0 : Int)) = (p : Int) := wrap_prod hp hq.most c0
        have c1 : (r : Int) ≤ 4294967295 := by have := hq.small; omega
        have c2 : (q : Int) ≤ 4294967297 := by have := hq.most; omega
        have HQ := Lib.hid hq; clear hq
        have HP := Lib.hid hp; clear hp
        by_cases hA : 4294967296 ≤ q ∨ 4294967296 * r + u0 < q * y0
        · have hA' := Lib.hid hA
          have hl := (digit_lower D2'.out HQ.out hA).1
          have c3 : (1 : Int) ≤ (q : Int) := by omega
          rw [← HP.out] at hA
          by_cases hR : r + y1 < 4294967296
          · have c4 : decide ((4294967296 : Int) ≤ (r : Int) + (y1 : Int)) = false := decide_eq_false (by omega)
            have NX := Lib.hid (digit_next D2'.out HQ.out hA'.out hR)
            clear hR hl
            by_cases hB : 4294967296 ≤ q
            · have c5 : (4294967296 : Int) ≤ (q : Int) := by omega
              clear hA
              go_wp2_with fail
              go_round
              case rel => exact ⟨q - 1, r + y1, u64_eq (by omega), u64_eq (by omega), NX.out⟩
              case measure => simp [intOf]; omega
            · have c5 : (q : Int) < 4294967296 := by omega
              have c6 : 4294967296 * (r : Int) + (u0 : Int) < (p : Int) := by omega
              clear hA
              go_wp2_with fail
              go_round
              case rel => exact ⟨q - 1, r + y1, u64_eq (by omega), u64_eq (by omega), NX.out⟩
              case measure => simp [intOf]; omega
          · have c4 : (4294967296 : Int) ≤ (r : Int) + (y1 : Int) := by omega
            have NX := Lib.hid (digit_break D2'.out HQ.out hA'.out (by omega))
            clear hR hl
            by_cases hB : 4294967296 ≤ q
            · have c5 : (4294967296 : Int) ≤ (q : Int) := by omega
              clear hA
              go_wp2_with fail
              go_meet
              case rel => exact ⟨u64_eq (by have := NX.out; rw [T2'.out]; omega), rfl⟩
            · have c5 : (q : Int) < 4294967296 := by omega
              have c6 : 4294967296 * (r : Int) + (u0 : Int) < (p : Int) := by omega
              clear hA
              go_wp2_with fail
              go_meet
              case rel => exact ⟨u64_eq (by have := NX.out; rw [T2'.out]; omega), rfl⟩
        · have c5 : decide ((4294967296 : Int) ≤ (q : Int)) = false := decide_eq_false (by omega)
          have c6 : decide (4294967296 * (r : Int) + (u0 : Int) < (p : Int)) = false := decide_eq_false (by have := HP.out; omega)
          have NX := Lib.hid (digit_done D2'.out HQ.out (by omega))
          clear hA
          go_wp2_with fail
          go_meet
          case rel => exact ⟨u64_eq (by rw [T2'.out, ← NX.out]), rfl⟩
    case rest =>
      obtain ⟨rfl, rfl⟩ := hcut
      go_wp2_with fail
      go_ret2
      exact ⟨rfl, rfl⟩
end Go.Proofs.Ytdjbnnjcifgnlaa

namespace Go.Proofs
open Go.Shelf
def Try.lays125_ren : Go.Shelf.Ren := ⟨fun | 125 => 49 | 128 => 82 | 129 => 83 | n => n, fun | 46 => 89 | 3 => 3 | 51 => 127 | 53 => 39 | 4 => 4 | 5 => 5 | 9 => 9 | n => n, fun | n => n⟩
theorem Try.lays125 : Go.Proofs.Lays.n125 Try.prog Try.lays125_ren := {
  mixed := by kernel_rfl
  f125 := Try.func49.trans (congrArg some (by kernel_rfl))
  f128 := Try.func82.trans (congrArg some (by kernel_rfl))
  f129 := Try.func83.trans (congrArg some (by kernel_rfl))
  t3 := Try.underlying3
  a3 := Try.isAgg3
  z3 := Try.sizeOf3
  v3 := Try.zeroValue3
  t4 := Try.underlying4
  a4 := Try.isAgg4
  z4 := Try.sizeOf4
  v4 := Try.zeroValue4
  t5 := Try.underlying5
  a5 := Try.isAgg5
  z5 := Try.sizeOf5
  v5 := Try.zeroValue5
  t9 := Try.underlying9
  a9 := Try.isAgg9
  z9 := Try.sizeOf9
  v9 := Try.zeroValue9
  t46 := Try.underlying89
  a46 := Try.isAgg89
  z46 := Try.sizeOf89
  v46 := Try.zeroValue89
  t51 := Try.underlying127
  a51 := Try.isAgg127
  z51 := Try.sizeOf127
  v51 := Try.zeroValue127
  t53 := Try.underlying39
  a53 := Try.isAgg39
  z53 := Try.sizeOf39
  v53 := Try.zeroValue39 }
/-- bits.Len: "Len returns the minimum number of bits required to represent x; the result is 0 for x == 0.": IT RETURNS 'Lib.bitLen x'; the world is as it was. (A uint has 64 bits in the model.) ITS CALLEE bits.Len64 IS MET BY ITS OWN CONTRACT OFF THE SHELF (lay that first). (LAID: no walk: one application.) -/
theorem Try.bits_Len (x : Int) (w : World) (h0 : 0 ≤ x) (h1 : x ≤ 18446744073709551615) :
    Calls Try.prog 49 #[.int .u64 x] w fun e w' => e = .returned (.int .i64 (Lib.bitLen x.toNat)) ∧ w' = w := Any.bits_Len Try.lays125 x w h0 h1
def Try.lays134_ren : Go.Shelf.Ren := ⟨fun | 134 => 89 | 129 => 83 | n => n, fun | 53 => 39 | 3 => 3 | 4 => 4 | 46 => 89 | 5 => 5 | 9 => 9 | n => n, fun | n => n⟩
theorem Try.lays134 : Go.Proofs.Lays.n134 Try.prog Try.lays134_ren := {
  mixed := by kernel_rfl
  f129 := Try.func83.trans (congrArg some (by kernel_rfl))
  f134 := Try.func89.trans (congrArg some (by kernel_rfl))
  t3 := Try.underlying3
  a3 := Try.isAgg3
  z3 := Try.sizeOf3
  v3 := Try.zeroValue3
  t4 := Try.underlying4
  a4 := Try.isAgg4
  z4 := Try.sizeOf4
  v4 := Try.zeroValue4
  t5 := Try.underlying5
  a5 := Try.isAgg5
  z5 := Try.sizeOf5
  v5 := Try.zeroValue5
  t9 := Try.underlying9
  a9 := Try.isAgg9
  z9 := Try.sizeOf9
  v9 := Try.zeroValue9
  t46 := Try.underlying89
  a46 := Try.isAgg89
  z46 := Try.sizeOf89
  v46 := Try.zeroValue89
  t53 := Try.underlying39
  a53 := Try.isAgg39
  z53 := Try.sizeOf39
  v53 := Try.zeroValue39 }
/-- bits.LeadingZeros64: "LeadingZeros64 returns the number of leading zero bits in x; the result is 64 for x == 0.": IT RETURNS '64 - Lib.bitLen x'; the world is as it was. ITS CALLEE bits.Len64 IS MET BY ITS OWN CONTRACT OFF THE SHELF (lay that first): entered in place it sends the kernel out of memory. (LAID: no walk: one application.) -/
theorem Try.bits_LeadingZeros64 (x : Int) (w : World) (h0 : 0 ≤ x) (h1 : x ≤ 18446744073709551615) :
    Calls Try.prog 89 #[.int .u64 x] w fun e w' => e = .returned (.int .i64 (64 - (Lib.bitLen x.toNat : Int))) ∧ w' = w := Any.bits_LeadingZeros64 Try.lays134 x w h0 h1
open Go.RowKit Go.Lib in
def Try.laysSlE43_f32_ren : Go.Shelf.Ren := ⟨fun | 43 => 32 | n => n, fun | 22 => 65 | 23 => 39 | 3 => 3 | 4 => 4 | 0 => 0 | n => n, fun | n => n⟩
theorem Try.laysSlE43_f32 : Go.Proofs.SlLaysE.n43 Try.prog Try.laysSlE43_f32_ren := {
  mixed := by kernel_rfl
  f43 := ⟨Try.f32.name, by decide, Try.func32.trans (congrArg some (by kernel_rfl))⟩
  t0 := Try.underlying0
  a0 := Try.isAgg0
  z0 := Try.sizeOf0
  v0 := Try.zeroValue0
  t3 := Try.underlying3
  a3 := Try.isAgg3
  z3 := Try.sizeOf3
  v3 := Try.zeroValue3
  t4 := Try.underlying4
  a4 := Try.isAgg4
  z4 := Try.sizeOf4
  v4 := Try.zeroValue4
  t22 := Try.underlying65
  a22 := Try.isAgg65
  z22 := Try.sizeOf65
  v22 := Try.zeroValue65
  a23 := Try.isAgg39
  z23 := Try.sizeOf39 }
open Go.RowKit Go.Lib Go.Sort in
/-- slices.Compact: "Compact replaces consecutive runs of equal elements with a single copy. .. Compact zeroes the elements between the new length and the original length.": IT RETURNS THE SLICE CUT TO 'compactUpTo d d.size'; ITS CELLS HOLD THAT, THEN ZERO VALUES up to the old length; the library's two loops are walked. (LAID AT THE INSTANCE 'slices.Compact[[]uint64,uint64]': no walk: one application.) -/
theorem Try.slices_Compact {α : Type} [Inhabited α] [DecidableEq α] (enc : α → Value) (hO : OneCell enc) (heq : EqlAt Try.prog 39 enc (fun x y => decide (x = y))) (hne : NeqAt Try.prog 39 enc (fun x y => decide (x = y))) (zr : α) (v23 : ∀ w, (zeroValue 39).run Try.prog w = .ok (enc zr) w) (blk off cap : Nat) (d : Array α) (w : World) (hH : Holds enc w blk off d) (hsz : d.size ≤ 9223372036854775807) (hcap : d.size ≤ cap) :
    Calls Try.prog 32 #[.slice (some ⟨blk, off, none⟩) d.size cap] w fun e w' => e = .returned (.slice (some ⟨blk, off, none⟩) (compactUpTo d d.size).length cap) ∧ ∃ q, w' = putRow enc (Sort.ahead w q) blk off (compactUpTo d d.size ++ List.replicate (d.size - (compactUpTo d d.size).length) zr).toArray := AnyE.slices_Compact Try.laysSlE43_f32 enc hO heq hne zr v23 blk off cap d w hH hsz hcap
end Go.Proofs

namespace Go.Proofs.Ytdjbnnjcifgnlaa
open Go.RowKit

theorem pow_cast (s : Nat) : ((2 : Int) ^ s) = ((2 ^ s : Nat) : Int) := by simp

theorem wrap_nat {n : Nat} (h : n < 18446744073709551616) : IntKind.u64.wrap (n : Int) = (n : Int) := by rw [IntKind.wrap_u64]; omega

theorem Div64_big (hi lo y : Nat) (h0 : 0 < hi) (hlt : hi < y) (hy : y < 2 ^ 64) (hlo : lo < 2 ^ 64) (w : World) :
    Calls Try.prog 60 #[.int .u64 (hi : Int), .int .u64 (lo : Int), .int .u64 (y : Int)] w fun e w' => e = .returned (.tuple #[.int .u64 (((hi * 18446744073709551616 + lo) / y : Nat) : Int), .int .u64 (((hi * 18446744073709551616 + lo) % y : Nat) : Int)]) ∧ ∃ nq, w.drewN nq = w' := by
  obtain ⟨s, hs⟩ : ∃ s, s = 64 - Lib.bitLen y := ⟨_, rfl⟩
  obtain ⟨hs64, hY1, hY2⟩ := shift_bits (by omega) hy hs
  have hbl := Lib.bitLen_le y 64 (by omega) hy
  have HZ : ∀ w, Calls Try.prog 89 #[.int .u64 (y : Int)] w fun e w' => e = .returned (.int .i64 (s : Int)) ∧ w = w' := by
    intro w
    refine (Try.bits_LeadingZeros64 (y : Int) w (by omega) (by omega)).mono ?_
    rintro e w' ⟨rfl, rfl⟩
    refine ⟨?_, rfl⟩
    rw [Int.toNat_natCast, hs]
    congr 2
    omega
  clear hs
  obtain ⟨Y, hY⟩ : ∃ Y, Y = y * 2 ^ s := ⟨_, rfl⟩
  rw [← hY] at hY1 hY2
  obtain ⟨n, hn⟩ : ∃ n, n = hi * 18446744073709551616 + lo := ⟨_, rfl⟩
  have hq : 0 < 2 ^ s := Nat.two_pow_pos s
  have hHY : hi * 2 ^ s < Y := by rw [hY]; exact Nat.mul_lt_mul_of_pos_right hlt hq
  obtain ⟨u, hu⟩ : ∃ u, u = n * 2 ^ s / 18446744073709551616 := ⟨_, rfl⟩
  obtain ⟨v, hv⟩ : ∃ v, v = n * 2 ^ s % 18446744073709551616 := ⟨_, rfl⟩
  obtain ⟨y1, hy1⟩ : ∃ y1, y1 = Y / 4294967296 := ⟨_, rfl⟩
  obtain ⟨y0, hy0⟩ : ∃ y0, y0 = Y % 4294967296 := ⟨_, rfl⟩
  obtain ⟨u1, hu1⟩ : ∃ u1, u1 = v / 4294967296 := ⟨_, rfl⟩
  obtain ⟨u0, hu0⟩ : ∃ u0, u0 = v % 4294967296 := ⟨_, rfl⟩
  have hYs : Y = y1 * 4294967296 + y0 := by omega
  have huY : u < Y := by
    rw [hu, Nat.div_lt_iff_lt_mul (by omega), hY, hn]
    have e : y * 2 ^ s * 18446744073709551616 = (y * 18446744073709551616) * 2 ^ s := by rw [Nat.mul_right_comm]
    rw [e]
    exact Nat.mul_lt_mul_of_pos_right (by omega) hq
  have D1 : DigitIn y1 y0 u u1 := ⟨by omega, by omega, by omega, by omega, by omega⟩
  have S1 := digit_start D1
  obtain ⟨t1, ht1⟩ : ∃ t1, t1 = (u * 4294967296 + u1) / Y := ⟨_, rfl⟩
  obtain ⟨m, hm⟩ : ∃ m, m = (u * 4294967296 + u1) % Y := ⟨_, rfl⟩
  have D2 : DigitIn y1 y0 m u0 := by rw [hm, hYs]; exact digit_second D1 (by omega)
  have S2 := digit_start D2
  obtain ⟨t0, ht0⟩ : ∃ t0, t0 = (m * 4294967296 + u0) / Y := ⟨_, rfl⟩
  obtain ⟨m0, hm0⟩ : ∃ m0, m0 = (m * 4294967296 + u0) % Y := ⟨_, rfl⟩
  have l1 := digit_small D1
  have l0 := digit_small D2
  rw [← hYs, ← ht1] at l1
  rw [← hYs, ← ht0] at l0
  obtain ⟨c1, e14, p14, _⟩ := wrapN ((u : Int) * 4294967296)
  obtain ⟨c2, e15, p15, _⟩ := wrapN ((c1 : Int) + (u1 : Int))
  obtain ⟨c3, e16, p16, _⟩ := wrapN ((t1 : Int) * (Y : Int))
  obtain ⟨c4, e17, p17, _⟩ := wrapN ((c2 : Int) - (c3 : Int))
  have hc4 : c4 = m := by rw [hm]; exact left_of D1 hYs ht1 (by omega) p14 p15 p16 p17
  obtain ⟨d2, e24, p24, _⟩ := wrapN ((m : Int) * 4294967296)
  obtain ⟨d3, e25, p25, _⟩ := wrapN ((d2 : Int) + (u0 : Int))
  obtain ⟨d4, e26, p26, _⟩ := wrapN ((t0 : Int) * (Y : Int))
  obtain ⟨d5, e27, p27, _⟩ := wrapN ((d3 : Int) - (d4 : Int))
  have hd5 : d5 = m0 := by rw [hm0]; exact left_of D2 hYs ht0 (by omega) p24 p25 p26 p27
  obtain ⟨d0, e22, p22, _⟩ := wrapN ((t1 : Int) * 4294967296)
  obtain ⟨d1, e23, p23, _⟩ := wrapN ((d0 : Int) + (t0 : Int))
  have hd1 : d1 = t1 * 4294967296 + t0 := by omega
  have both := both_of (hi := hi) (lo := lo) hY (by omega) (by rw [← hn]; exact hu) (by rw [← hn]; exact hv) hu1 hu0 ht1 hm ht0 hm0
  have hmY : m < Y := by rw [hm]; exact Nat.mod_lt _ (by omega)
  have hym : 0 < y1 := by omega
  have q1 : u / y1 * y1 + u % y1 = u := by have := S1.sum; omega
  have q2 : m / y1 * y1 + m % y1 = m := by have := S2.sum; omega
  have q3 : u / y1 ≤ u := Nat.div_le_self _ _
  have q4 : m / y1 ≤ m := Nat.div_le_self _ _
  have core := Div64_core hi lo y s Y y1 y0 (hi * 2 ^ s) (lo / 2 ^ (64 - s)) u v u1 u0 (u / y1) (u / y1 * y1) (u % y1) t1 c1 c2 c3 m (m / y1) (m / y1 * y1) (m % y1) t0 d0 d1 d2 d3 d4 d5 (m0 / 2 ^ s) h0 hlt hy hlo hs64
    (by rw [IntKind.wrap_u64, pow_cast, ← Int.natCast_mul, ← hY]; omega) (by omega) (by rw [hy0]; exact and_low (by omega))
    (by rw [IntKind.wrap_u64, pow_cast, ← Int.natCast_mul]; omega) (by rw [pow_cast, ← Int.natCast_ediv]) (by rw [or_parts hs64 hlo (by omega), ← hn, ← hu])
    (by rw [IntKind.wrap_u64, pow_cast, ← Int.natCast_mul, hv, hn, ← low_part]; omega) (by omega) (by rw [hu0]; exact and_low (by omega))
    (by rw [← Int.natCast_ediv]) (wrap_nat (Nat.lt_of_le_of_lt q3 (by omega))) (by rw [IntKind.wrap_u64, ← Int.natCast_mul]; omega) (by rw [IntKind.wrap_u64]; omega)
    D1 S1 (by rw [← hYs]; exact ht1) e14 e15 e16 (by rw [e17, hc4])
    (by rw [← Int.natCast_ediv]) (wrap_nat (Nat.lt_of_le_of_lt q4 (by omega))) (by rw [IntKind.wrap_u64, ← Int.natCast_mul]; omega) (by rw [IntKind.wrap_u64]; omega)
    D2 S2 (by rw [← hYs]; exact ht0) e22 e23 e24 e25 e26 e27 (by rw [pow_cast, ← Int.natCast_ediv, hd5]) (by omega) (by omega) HZ w
  refine core.mono ?_
  rintro e w' ⟨rfl, rfl⟩
  refine ⟨?_, 0, rfl⟩
  rw [hd1, both.1, both.2]

theorem Div64_c (hi lo y : Nat) (hlt : hi < y) (hy : y < 2 ^ 64) (hlo : lo < 2 ^ 64) (w : World) :
    Calls Try.prog 60 #[.int .u64 (hi : Int), .int .u64 (lo : Int), .int .u64 (y : Int)] w fun e w' => e = .returned (.tuple #[.int .u64 (((hi * 18446744073709551616 + lo) / y : Nat) : Int), .int .u64 (((hi * 18446744073709551616 + lo) % y : Nat) : Int)]) ∧ ∃ nq, w.drewN nq = w' := by
  by_cases h0 : hi = 0
  · subst h0
    have := Div64_small lo y hlo (by omega) hy w
    simpa using this
  · exact Div64_big hi lo y (by omega) hlt hy hlo w

/-- Div where the quotient has 64 bits at most. -/
theorem Div_fits (a b c round : Int) (ha : InR a) (hb : InR b) (hc : InR c) (hc0 : c ≠ 0) (hround : round = 1 ∨ round = 2 ∨ round = 3) (hlt : (a * b).natAbs / 18446744073709551616 < c.natAbs) (w : World) :
    Calls Try.prog 43 #[.int .i64 a, .int .i64 b, .int .i64 c, .int .i64 round] w fun e w' => e = .returned (.tuple #[.int .i64 (tv (divR a b c round)), .int .i64 (te (divR a b c round))]) ∧ Below w.heap.size w w' := by
  refine Div_c a b c round ha hb hc hc0 hround _ _ rfl rfl hlt (fun w => ?_) w
  have h1 : c.natAbs < 2 ^ 64 := by unfold InR at hc; omega
  generalize (a * b).natAbs = n at *
  rw [small_lo _ h1]
  have e1 : hiOf (n : Int) = ((n / 18446744073709551616 : Nat) : Int) := by unfold hiOf; omega
  have e2 : loOf (n : Int) = ((n % 18446744073709551616 : Nat) : Int) := by unfold loOf; omega
  rw [e1, e2]
  have h := Div64_c (n / 18446744073709551616) (n % 18446744073709551616) c.natAbs hlt h1 (by omega) w
  have e3 : n / 18446744073709551616 * 18446744073709551616 + n % 18446744073709551616 = n := by omega
  rw [e3] at h
  exact h

set_option maxHeartbeats 4000000 in
set_option maxRecDepth 100000 in
theorem Div_over (a b c round p : Int) (n d : Nat) (c1 : -9223372036854775808 ≤ c) (c2 : c ≤ 9223372036854775807) (e0 : (c == 0) = false) (hround : round = 1 ∨ round = 2 ∨ round = 3)
    (hhi : loOf (d : Int) ≤ hiOf (n : Int)) (hhi1 : hiOf (n : Int) ≤ 9223372036854775807)
    (HT : Hid (∀ w, Calls Try.prog 57 #[.int .i64 a, .int .i64 b] w fun e w' => e = .returned (PV p) ∧ Below w.heap.size w w'))
    (HS : Hid (∀ w, Calls Try.prog 58 #[PV p] w fun e w' => e = .returned (PV (n : Int)) ∧ Below w.heap.size w w'))
    (HSc : Hid (∀ w, Calls Try.prog 58 #[PV c] w fun e w' => e = .returned (PV (d : Int)) ∧ Below w.heap.size w w')) (w : World) :
    Calls Try.prog 43 #[.int .i64 a, .int .i64 b, .int .i64 c, .int .i64 round] w fun e w' => e = .returned (.tuple #[.int .i64 0, .int .i64 10]) ∧ Below w.heap.size w w' := by
  have hh0 : 0 ≤ hiOf (n : Int) := by unfold hiOf; omega
  rcases hround with rfl | rfl | rfl
  all_goals
    go_enter Try.func43, Try.ntmps43
    go_wp2_with fail
    ((with_reducible refine (HT.out _).mono ?_); rintro e w1 ⟨rfl, hb1⟩)
    have Hb1 := Lib.hid hb1; clear hb1
    go_wp2_with fail
    ((with_reducible refine (HS.out _).mono ?_); rintro e w2 ⟨rfl, hb2⟩)
    go_wp2_with fail
    ((with_reducible refine (wide_c c c1 c2 _).mono ?_); rintro e w' ⟨rfl, rfl⟩)
    have z2 : w1.heap.size + 1 ≤ w2.heap.size := by have := hb2.size; simp at this; omega
    have B2 : Hid (Below w.heap.size w w2) := by
      show Below _ _ _
      have s1 := Hb1.out.size
      exact Below.trans (Below.alloc Hb1.out s1 _) (hb2.mono (by simp; omega))
    clear hb2
    go_wp2_with fail
    ((with_reducible refine (HSc.out _).mono ?_); rintro e w3 ⟨rfl, hb3⟩)
    have B3 : Hid (Below w.heap.size w w3) := by
      show Below _ _ _
      have s1 := B2.out.size
      exact Below.trans (Below.alloc B2.out s1 _) (hb3.mono (by simp; omega))
    clear hb3 B2 z2 Hb1
    have z3 := B3.out.size
    go_wp2_with fail
    go_ret2
    have B4 := B3.out
    first | exact ⟨rfl, by (focus ((repeat' (first | (with_reducible exact Below.refl _ _) | (with_reducible assumption) | (with_reducible refine Below.alloc ?_ ?_ _) | (with_reducible refine Below.setCell ?_ ?_ _) | (with_reducible refine Below.row ?_ ?_ _) | (with_reducible refine Below.drew ?_) | (with_reducible refine below_drewN ?_ _) | (focus (first | (simp; done) | omega | (simp; omega))))); done))⟩ | (focus ((repeat' (first | (with_reducible exact Below.refl _ _) | (with_reducible assumption) | (with_reducible refine Below.alloc ?_ ?_ _) | (with_reducible refine Below.setCell ?_ ?_ _) | (with_reducible refine Below.row ?_ ?_ _) | (with_reducible refine Below.drew ?_) | (with_reducible refine below_drewN ?_ _) | (focus (first | (simp; done) | omega | (simp; omega))))); done))

set_option maxHeartbeats 4000000 in
set_option maxRecDepth 100000 in
theorem Div_wrong (a b c round : Int) (hround : ¬ (round = 1 ∨ round = 2 ∨ round = 3)) (w : World) :
    Calls Try.prog 43 #[.int .i64 a, .int .i64 b, .int .i64 c, .int .i64 round] w fun e w' => e = .returned (.tuple #[.int .i64 0, .int .i64 2]) ∧ Below w.heap.size w w' := by
  have h1 : (round == 1) = false := by simp; omega
  have h2 : (round == 2) = false := by simp; omega
  have h3 : (round == 3) = false := by simp; omega
  have g1 : (round != 1) = true := by simp; omega
  have g2 : (round != 2) = true := by simp; omega
  have g3 : (round != 3) = true := by simp; omega
  clear hround
  go_enter Try.func43, Try.ntmps43
  go_wp2_with fail
  go_ret2
  first | exact ⟨rfl, Below.refl _ _⟩ | exact Below.refl _ _

set_option maxHeartbeats 4000000 in
set_option maxRecDepth 100000 in
theorem Div_zero (a b round : Int) (hround : round = 1 ∨ round = 2 ∨ round = 3) (w : World) :
    Calls Try.prog 43 #[.int .i64 a, .int .i64 b, .int .i64 0, .int .i64 round] w fun e w' => e = .returned (.tuple #[.int .i64 0, .int .i64 11]) ∧ Below w.heap.size w w' := by
  rcases hround with rfl | rfl | rfl
  all_goals
    go_enter Try.func43, Try.ntmps43
    go_wp2_with fail
    go_ret2
    first | exact ⟨rfl, Below.refl _ _⟩ | exact Below.refl _ _

/-- What is told of a quotient: its value .. -/
def dv (a b c round : Int) : Int := if ¬ (round = 1 ∨ round = 2 ∨ round = 3) then 0 else if c = 0 then 0 else tv (divR a b c round)
/-- .. and the error. -/
def de (a b c round : Int) : Int := if ¬ (round = 1 ∨ round = 2 ∨ round = 3) then 2 else if c = 0 then 11 else te (divR a b c round)

theorem divR_over {a b c round : Int} (h : c.natAbs ≤ (a * b).natAbs / 18446744073709551616) (hc0 : c ≠ 0) : ¬ InR (divR a b c round) := by
  have hd : 0 < c.natAbs := by omega
  have h1 : 18446744073709551616 ≤ (a * b).natAbs / c.natAbs := by
    rw [Nat.le_div_iff_mul_le hd]
    omega
  intro h2
  simp only [divR, InR] at h2
  generalize (a * b).natAbs / c.natAbs = q at *
  split at h2 <;> split at h2 <;> omega

theorem Div_any (a b c round : Int) (ha : InR a) (hb : InR b) (hc : InR c) (w : World) :
    Calls Try.prog 43 #[.int .i64 a, .int .i64 b, .int .i64 c, .int .i64 round] w fun e w' => e = .returned (.tuple #[.int .i64 (dv a b c round), .int .i64 (de a b c round)]) ∧ Below w.heap.size w w' := by
  by_cases hround : round = 1 ∨ round = 2 ∨ round = 3
  · have hnn : ¬ ¬ (round = 1 ∨ round = 2 ∨ round = 3) := fun h => h hround
    by_cases hc0 : c = 0
    · rw [dv, de, if_neg hnn, if_neg hnn, if_pos hc0, if_pos hc0, hc0]; exact Div_zero a b round hround w
    · rw [dv, de, if_neg hnn, if_neg hnn, if_neg hc0, if_neg hc0]
      by_cases hlt : (a * b).natAbs / 18446744073709551616 < c.natAbs
      · exact Div_fits a b c round ha hb hc hc0 hround hlt w
      · rw [tv_out (divR_over (by omega) hc0), te_out (divR_over (by omega) hc0)]
        have hprm := times_rm ha hb
        have hprn := times_neg ha hb
        have hn : Rm (((a * b).natAbs : Nat) : Int) := by unfold Rm at hprm hprn ⊢; omega
        have hc64 : c.natAbs < 2 ^ 64 := by unfold InR at hc; omega
        refine Div_over a b c round (a * b) (a * b).natAbs c.natAbs hc.1 hc.2 (by simp [hc0]) hround ?_ (hi_bd hn).2 ?_ ?_ ?_ w
        · rw [small_lo _ hc64]; unfold hiOf; omega
        · show ∀ w, _; intro w; exact times_c a b ha hb w
        · show ∀ w, _; intro w; exact size_c (a * b) hprm hprn w
        · show ∀ w, _; intro w; exact size_c c (rm_in hc) (by unfold InR at hc; unfold Rm; omega) w
  · rw [dv, de, if_pos hround, if_pos hround]; exact Div_wrong a b c round hround w
end Go.Proofs.Ytdjbnnjcifgnlaa

namespace Go.Proofs.Ytdjbnnjcifgnlaa

theorem divR_eq (a b c round : Int) (neg : Bool) (q : Nat) (hneg : neg = (decide (a * b < 0) != decide (c < 0))) (hq : q = (a * b).natAbs / c.natAbs) :
    divR a b c round = if neg then -((q + if awayB round neg (decide (q % 2 = 1)) ((a * b).natAbs % c.natAbs) c.natAbs then 1 else 0 : Nat) : Int) else ((q + if awayB round neg (decide (q % 2 = 1)) ((a * b).natAbs % c.natAbs) c.natAbs then 1 else 0 : Nat) : Int) := by
  rw [hneg, hq]; rfl

end Go.Proofs.Ytdjbnnjcifgnlaa

namespace Go.Proofs.Ytdjbnnjcifgnlaa

/-- May a band not be asked, of any price? -/
def WrongL (last band : Int) : Prop := last < 0 ∨ 1099511627776 < last ∨ band < 0 ∨ 1000000 < band
instance (last band : Int) : Decidable (WrongL last band) := by unfold WrongL; exact inferInstance
def trimN (lot qty : Int) : Int := if lot < 1 ∨ qty < 1 then 0 else qty / lot * lot
theorem trim_bd {lot qty : Int} (h1 : 1 ≤ lot) (h2 : 1 ≤ qty) : 0 ≤ trimN lot qty ∧ trimN lot qty ≤ qty ∧ trimN lot qty % lot = 0 ∧ qty - trimN lot qty < lot ∧ trimN lot qty = qty - qty % lot := by
  unfold trimN
  rw [if_neg (by omega)]
  have e := Int.mul_ediv_add_emod qty lot
  have e1 := Int.emod_nonneg qty (show lot ≠ 0 by omega)
  have e2 := Int.emod_lt_of_pos qty (show 0 < lot by omega)
  have e3 : 0 ≤ qty / lot * lot := Int.mul_nonneg (Int.ediv_nonneg (by omega) (by omega)) (by omega)
  have e4 : qty / lot * lot % lot = 0 := Int.mul_emod_left _ _
  rw [Int.mul_comm] at e
  generalize qty / lot * lot = x at *
  generalize qty % lot = y at *
  omega

/-- A row of a fee table. -/
structure Ti where
  f : Int
  m : Int
  k : Int
instance : Inhabited Ti := ⟨⟨0, 0, 0⟩⟩
def TF (t : List Ti) (i : Nat) : Int := (t.getD i ⟨0, 0, 0⟩).f
def TM (t : List Ti) (i : Nat) : Int := (t.getD i ⟨0, 0, 0⟩).m
def TK (t : List Ti) (i : Nat) : Int := (t.getD i ⟨0, 0, 0⟩).k
def lastT (t : List Ti) (i : Nat) : Int := if i = 0 then -1 else TF t (i - 1)
def okT (t : List Ti) (i : Nat) : Prop := lastT t i < TF t i ∧ TF t i ≤ 4611686018427387904 ∧ 0 ≤ TM t i ∧ TM t i ≤ 100000 ∧ 0 ≤ TK t i ∧ TK t i ≤ 100000
instance (t : List Ti) (i : Nat) : Decidable (okT t i) := by unfold okT; exact inferInstance
def GoodT (t : List Ti) : Prop := 1 ≤ t.length ∧ t.length ≤ 8 ∧ TF t 0 = 0 ∧ ∀ i, i < t.length → okT t i
instance (t : List Ti) : Decidable (GoodT t) := by unfold GoodT; exact inferInstance
theorem GoodT.inc {t : List Ti} (h : GoodT t) {i : Nat} (hi : i + 1 < t.length) : TF t i < TF t (i + 1) := by
  have := (h.2.2.2 (i + 1) hi).1
  simpa [lastT] using this
theorem GoodT.mono {t : List Ti} (h : GoodT t) : ∀ (d i : Nat), i + d + 1 < t.length → TF t i < TF t (i + d + 1)
  | 0, i, hi => h.inc hi
  | d + 1, i, hi => Int.lt_trans (h.mono d i (by omega)) (by have := h.inc (i := i + d + 1) (by omega); simpa [Nat.add_assoc] using this)
theorem GoodT.lt {t : List Ti} (h : GoodT t) {i j : Nat} (hij : i < j) (hj : j < t.length) : TF t i < TF t j := by
  obtain ⟨d, rfl⟩ : ∃ d, j = i + d + 1 := ⟨j - i - 1, by omega⟩
  exact h.mono d i hj
/-- A fee: its number .. -/
def feeOk (notional parts round : Int) : Prop := 0 ≤ notional ∧ notional ≤ 4611686018427387904 ∧ 0 ≤ parts ∧ parts ≤ 100000 ∧ (round = 1 ∨ round = 2 ∨ round = 3)
instance (a b c : Int) : Decidable (feeOk a b c) := by unfold feeOk; exact inferInstance
def ofOk (_t : List Ti) (v role : Int) : Prop := 0 ≤ v ∧ (role = 1 ∨ role = 2)
instance (t : List Ti) (v role : Int) : Decidable (ofOk t v role) := by unfold ofOk; exact inferInstance
end Go.Proofs.Ytdjbnnjcifgnlaa

namespace Go.Proofs.Ytdjbnnjcifgnlaa

theorem trim_no {lot q : Int} (h : lot < 1 ∨ q < 1) : trimN lot q = 0 := if_pos h
theorem trim_rng {lot q : Int} (h : 1 ≤ lot) (hq : 0 ≤ q) : 0 ≤ trimN lot q ∧ trimN lot q ≤ q ∧ q - trimN lot q < lot := by
  by_cases h1 : q < 1
  · rw [trim_no (.inr h1)]; omega
  · have := trim_bd (lot := lot) (qty := q) h (by omega); omega
/-- May these quantities be? -/
def OkQ (Q : List Int) : Prop := ∀ q ∈ Q, 0 ≤ q ∧ q ≤ 1099511627776
instance (Q : List Int) : Decidable (OkQ Q) := by unfold OkQ; infer_instance
/-- What some have, in whole lots. -/
def sumT (lot : Int) : List Int → Int
  | [] => 0
  | q :: Q => trimN lot q + sumT lot Q
theorem sumT_app (lot : Int) (A B : List Int) : sumT lot (A ++ B) = sumT lot A + sumT lot B := by
  induction A with
  | nil => simp [sumT]
  | cons a A ih => simp only [List.cons_append, sumT, ih]; omega
theorem sumT_bd {lot : Int} (h : 1 ≤ lot) {Q : List Int} (hQ : OkQ Q) : 0 ≤ sumT lot Q ∧ sumT lot Q ≤ 1099511627776 * Q.length := by
  induction Q with
  | nil => simp [sumT]
  | cons q Q ih =>
    have h1 := ih (fun x hx => hQ x (List.mem_cons_of_mem _ hx))
    have h2 := hQ q List.mem_cons_self
    have h3 := trim_rng (lot := lot) h h2.1
    simp only [sumT, List.length_cons]
    omega
/-- P16.1. -/
def totN (Q : List Int) (lot : Int) : Int := if lot < 1 ∨ 1099511627776 < lot ∨ 64 < Q.length ∨ ¬ OkQ Q then 0 else sumT lot Q
theorem totN_bd (Q : List Int) (lot : Int) : 0 ≤ totN Q lot ∧ totN Q lot ≤ 70368744177664 := by
  unfold totN
  split
  · omega
  · rename_i h
    have := sumT_bd (lot := lot) (by omega) (Q := Q) (Classical.byContradiction fun hh => h (.inr (.inr (.inr hh))))
    omega

theorem dv_part {a t T : Int} (h1 : 0 ≤ a) (h2 : 0 ≤ t) (h3 : 0 < T) (h4 : t ≤ T) (h5 : a ≤ 4611686018427387904) : dv a t T 1 = a * t / T ∧ de a t T 1 = 0 ∧ 0 ≤ a * t / T ∧ a * t / T ≤ a := by
  have hp : 0 ≤ a * t := Int.mul_nonneg h1 h2
  have hq : a * t / T ≤ a := by
    apply Int.ediv_le_of_le_mul h3
    exact Int.mul_le_mul_of_nonneg_left h4 h1
  have hq0 : 0 ≤ a * t / T := Int.ediv_nonneg hp (by omega)
  have e : divR a t T 1 = a * t / T := by
    rw [divR_eq a t T 1 false _ (by rw [decide_eq_false (by omega), decide_eq_false (by omega)]; rfl) rfl]
    have e1 : (a * t).natAbs = (a * t).toNat := by omega
    have e2 : T.natAbs = T.toNat := by omega
    rw [if_neg (show ¬ (false = true) by decide), e1, e2]
    unfold awayB
    have e3 : ∀ (x : Nat) (b : Bool), (if (if x = 0 then false else if (1 : Int) = 2 then !false else if (1 : Int) = 1 then false else b) = true then 1 else 0) = (0 : Nat) := by intro x b; simp
    rw [e3, Nat.add_zero, Int.natCast_ediv, Int.toNat_of_nonneg hp, Int.toNat_of_nonneg (by omega)]
  have hi : InR (divR a t T 1) := by rw [e]; unfold InR; omega
  rw [dv, de, if_neg (not_not_intro (.inl rfl)), if_neg (not_not_intro (.inl rfl)), if_neg (by omega), if_neg (by omega), tv_in hi, te_in hi, e]
  exact ⟨rfl, rfl, hq0, hq⟩

/-- What one gets first. -/
def p1 (mode all T lot q : Int) : Int := if mode = 2 then trimN lot (all * trimN lot q / T) else 0
/-- What there is to be got. -/
def allN (lot qty T : Int) : Int := min (trimN lot qty) T
/-- What is left behind the first k. -/
def lef1 (mode all T lot : Int) (Q : List Int) : Nat → Int
  | 0 => all
  | k + 1 => lef1 mode all T lot Q k - p1 mode all T lot (Q.getD k 0)
/-- Whom, and how much more: what is left by all, then one after the other. -/
def lef2 (mode all T lot : Int) (Q : List Int) : Nat → Int
  | 0 => lef1 mode all T lot Q Q.length
  | k + 1 => lef2 mode all T lot Q k - min (lef2 mode all T lot Q k) (trimN lot (Q.getD k 0) - p1 mode all T lot (Q.getD k 0))
def outN (mode all T lot : Int) (Q : List Int) (k : Nat) : Int :=
  p1 mode all T lot (Q.getD k 0) + min (lef2 mode all T lot Q k) (trimN lot (Q.getD k 0) - p1 mode all T lot (Q.getD k 0))

theorem sumT_take (lot : Int) (Q : List Int) (k : Nat) (h : k < Q.length) : sumT lot (Q.take (k + 1)) = sumT lot (Q.take k) + trimN lot (Q.getD k 0) := by
  rw [List.take_succ_eq_append_getElem h, sumT_app, List.getD_eq_getElem?_getD, List.getElem?_eq_getElem h]; simp [sumT]
theorem sumT_take_le {lot : Int} (h : 1 ≤ lot) {Q : List Int} (hQ : OkQ Q) (k : Nat) : sumT lot (Q.take k) ≤ sumT lot Q := by
  have e := sumT_app lot (Q.take k) (Q.drop k)
  rw [List.take_append_drop] at e
  have := (sumT_bd (lot := lot) h (Q := Q.drop k) (fun x hx => hQ x (List.mem_of_mem_drop hx))).1
  omega
theorem getD_ok {Q : List Int} (hQ : OkQ Q) (k : Nat) : 0 ≤ Q.getD k 0 ∧ Q.getD k 0 ≤ 1099511627776 := by
  by_cases hk : k < Q.length
  · rw [List.getD_eq_getElem?_getD, List.getElem?_eq_getElem hk]; exact hQ _ (List.getElem_mem hk)
  · rw [List.getD_eq_getElem?_getD, List.getElem?_eq_none (by omega)]; simp
theorem trim_le_sum {lot : Int} (h : 1 ≤ lot) {Q : List Int} (hQ : OkQ Q) (k : Nat) (hk : k < Q.length) : trimN lot (Q.getD k 0) ≤ sumT lot Q := by
  have h1 := sumT_take lot Q k hk
  have h2 := sumT_take_le h hQ (k + 1)
  have h3 := (sumT_bd (lot := lot) h (Q := Q.take k) (fun x hx => hQ x (List.mem_of_mem_take hx))).1
  omega

/-- The first parts: none is more than what is left, nor than what one has. -/
theorem p1_fits {mode all lot : Int} {Q : List Int} (hl : 1 ≤ lot) (hQ : OkQ Q) (ha : 0 ≤ all) (haT : all ≤ sumT lot Q) (hT : 0 < sumT lot Q) :
    ∀ k, k ≤ Q.length → (0 ≤ lef1 mode all (sumT lot Q) lot Q k ∧ lef1 mode all (sumT lot Q) lot Q k ≤ all ∧ (all - lef1 mode all (sumT lot Q) lot Q k) * sumT lot Q ≤ all * sumT lot (Q.take k)) ∧
      (k < Q.length → 0 ≤ p1 mode all (sumT lot Q) lot (Q.getD k 0) ∧ p1 mode all (sumT lot Q) lot (Q.getD k 0) ≤ lef1 mode all (sumT lot Q) lot Q k ∧ p1 mode all (sumT lot Q) lot (Q.getD k 0) ≤ trimN lot (Q.getD k 0) ∧ p1 mode all (sumT lot Q) lot (Q.getD k 0) * sumT lot Q ≤ all * trimN lot (Q.getD k 0)) := by
  have hp : ∀ k, k < Q.length → 0 ≤ p1 mode all (sumT lot Q) lot (Q.getD k 0) ∧ p1 mode all (sumT lot Q) lot (Q.getD k 0) ≤ trimN lot (Q.getD k 0) ∧ p1 mode all (sumT lot Q) lot (Q.getD k 0) * sumT lot Q ≤ all * trimN lot (Q.getD k 0) := by
    intro k hk
    have hq := getD_ok hQ k
    have ht := trim_rng hl hq.1
    have hts := trim_le_sum hl hQ k hk
    unfold p1
    by_cases hm : mode = 2
    · rw [if_pos hm]
      have hnn : 0 ≤ all * trimN lot (Q.getD k 0) / sumT lot Q := Int.ediv_nonneg (Int.mul_nonneg ha ht.1) (by omega)
      have h1 := trim_rng hl hnn
      have h2 : all * trimN lot (Q.getD k 0) / sumT lot Q * sumT lot Q ≤ all * trimN lot (Q.getD k 0) := Int.ediv_mul_le _ (by omega)
      have h3 : all * trimN lot (Q.getD k 0) / sumT lot Q ≤ trimN lot (Q.getD k 0) := by
        apply Int.ediv_le_of_le_mul hT
        rw [Int.mul_comm]
        exact Int.mul_le_mul_of_nonneg_left haT ht.1
      have h4 := Int.mul_le_mul_of_nonneg_right h1.2.1 (Int.le_of_lt hT)
      exact ⟨h1.1, by omega, by omega⟩
    · rw [if_neg hm]
      have := Int.mul_nonneg ha ht.1
      exact ⟨Int.le_refl _, ht.1, by rw [Int.zero_mul]; exact this⟩
  intro k
  have main : k ≤ Q.length → 0 ≤ lef1 mode all (sumT lot Q) lot Q k ∧ lef1 mode all (sumT lot Q) lot Q k ≤ all ∧ (all - lef1 mode all (sumT lot Q) lot Q k) * sumT lot Q ≤ all * sumT lot (Q.take k) := by
    induction k with
    | zero => intro _; simp [lef1, sumT, ha]
    | succ k ih =>
      intro hk
      obtain ⟨i1, i2, i3⟩ := ih (by omega)
      obtain ⟨j1, j2, j3⟩ := hp k (by omega)
      have e := sumT_take lot Q k (by omega)
      have hle := sumT_take_le hl hQ (k + 1)
      rw [e] at hle ⊢
      show 0 ≤ lef1 mode all (sumT lot Q) lot Q k - p1 mode all (sumT lot Q) lot (Q.getD k 0) ∧ lef1 mode all (sumT lot Q) lot Q k - p1 mode all (sumT lot Q) lot (Q.getD k 0) ≤ all ∧ (all - (lef1 mode all (sumT lot Q) lot Q k - p1 mode all (sumT lot Q) lot (Q.getD k 0))) * sumT lot Q ≤ all * (sumT lot (Q.take k) + trimN lot (Q.getD k 0))
      have key : (all - (lef1 mode all (sumT lot Q) lot Q k - p1 mode all (sumT lot Q) lot (Q.getD k 0))) * sumT lot Q ≤ all * (sumT lot (Q.take k) + trimN lot (Q.getD k 0)) := by
        rw [show all - (lef1 mode all (sumT lot Q) lot Q k - p1 mode all (sumT lot Q) lot (Q.getD k 0)) = (all - lef1 mode all (sumT lot Q) lot Q k) + p1 mode all (sumT lot Q) lot (Q.getD k 0) by omega, Int.add_mul, Int.mul_add]
        omega
      have top : all * (sumT lot (Q.take k) + trimN lot (Q.getD k 0)) ≤ all * sumT lot Q := Int.mul_le_mul_of_nonneg_left hle ha
      have hd : all - (lef1 mode all (sumT lot Q) lot Q k - p1 mode all (sumT lot Q) lot (Q.getD k 0)) ≤ all := Int.le_of_mul_le_mul_right (Int.le_trans key top) hT
      exact ⟨by omega, by omega, key⟩
  intro hk
  refine ⟨main hk, fun hlt => ?_⟩
  obtain ⟨m1, m2, m3⟩ := main hk
  obtain ⟨j1, j2, j3⟩ := hp k hlt
  refine ⟨j1, ?_, j2, j3⟩
  have e := sumT_take lot Q k hlt
  have hle := sumT_take_le hl hQ (k + 1)
  rw [e] at hle
  have key : (all - (lef1 mode all (sumT lot Q) lot Q k - p1 mode all (sumT lot Q) lot (Q.getD k 0))) * sumT lot Q ≤ all * (sumT lot (Q.take k) + trimN lot (Q.getD k 0)) := by
    rw [show all - (lef1 mode all (sumT lot Q) lot Q k - p1 mode all (sumT lot Q) lot (Q.getD k 0)) = (all - lef1 mode all (sumT lot Q) lot Q k) + p1 mode all (sumT lot Q) lot (Q.getD k 0) by omega, Int.add_mul, Int.mul_add]
    omega
  have top : all * (sumT lot (Q.take k) + trimN lot (Q.getD k 0)) ≤ all * sumT lot Q := Int.mul_le_mul_of_nonneg_left hle ha
  have hd : all - (lef1 mode all (sumT lot Q) lot Q k - p1 mode all (sumT lot Q) lot (Q.getD k 0)) ≤ all := Int.le_of_mul_le_mul_right (Int.le_trans key top) hT
  omega
end Go.Proofs.Ytdjbnnjcifgnlaa

namespace Go.Proofs.Ytdjbnnjcifgnlaa
set_option linter.unusedSectionVars false
set_option linter.unusedVariables false
set_option linter.unusedSimpArgs false

/-- What the first k have got. -/
def outS (mode all T lot : Int) (Q : List Int) : Nat → Int
  | 0 => 0
  | k + 1 => outS mode all T lot Q k + outN mode all T lot Q k

section
variable {mode all lot : Int} {Q : List Int} (hl : 1 ≤ lot) (hQ : OkQ Q) (ha : 0 ≤ all) (haT : all ≤ sumT lot Q) (hT : 0 < sumT lot Q)
include hl hQ ha haT hT

theorem p1_rng (k : Nat) (hk : k < Q.length) : 0 ≤ p1 mode all (sumT lot Q) lot (Q.getD k 0) ∧ p1 mode all (sumT lot Q) lot (Q.getD k 0) ≤ trimN lot (Q.getD k 0) := by
  have h := (p1_fits (mode := mode) hl hQ ha haT hT k (by omega)).2 hk
  exact ⟨h.1, h.2.2.1⟩
theorem lef2_rng (k : Nat) (hk : k ≤ Q.length) : 0 ≤ lef2 mode all (sumT lot Q) lot Q k ∧ lef2 mode all (sumT lot Q) lot Q k ≤ all := by
  induction k with
  | zero => have h := (p1_fits (mode := mode) hl hQ ha haT hT Q.length (by omega)).1; exact ⟨h.1, h.2.1⟩
  | succ k ih =>
    have h := ih (by omega)
    have hp := p1_rng (mode := mode) hl hQ ha haT hT k (by omega)
    simp only [lef2]
    omega
theorem outN_rng (k : Nat) (hk : k < Q.length) : 0 ≤ outN mode all (sumT lot Q) lot Q k ∧ outN mode all (sumT lot Q) lot Q k ≤ trimN lot (Q.getD k 0) ∧ p1 mode all (sumT lot Q) lot (Q.getD k 0) ≤ outN mode all (sumT lot Q) lot Q k := by
  have h := lef2_rng (mode := mode) hl hQ ha haT hT k (by omega)
  have hp := p1_rng (mode := mode) hl hQ ha haT hT k hk
  unfold outN
  omega
theorem outS_lef (k : Nat) (hk : k ≤ Q.length) : lef2 mode all (sumT lot Q) lot Q k + outS mode all (sumT lot Q) lot Q k = lef1 mode all (sumT lot Q) lot Q Q.length + (all - lef1 mode all (sumT lot Q) lot Q k) := by
  induction k with
  | zero => simp [lef2, outS, lef1]
  | succ k ih =>
    have h := ih (by omega)
    simp only [lef2, outS, lef1, outN]
    omega
theorem full_or (k : Nat) (hk : k ≤ Q.length) : lef2 mode all (sumT lot Q) lot Q k = 0 ∨ outS mode all (sumT lot Q) lot Q k = sumT lot (Q.take k) := by
  induction k with
  | zero => right; simp [outS, sumT]
  | succ k ih =>
    have hp := p1_rng (mode := mode) hl hQ ha haT hT k (by omega)
    have h2 := lef2_rng (mode := mode) hl hQ ha haT hT k (by omega)
    have e := sumT_take lot Q k (by omega)
    rcases ih (by omega) with h | h
    · left
      simp only [lef2, h]
      omega
    · simp only [lef2, outS, outN, h, e]
      omega
/-- All together get what there is. -/
theorem outS_all : outS mode all (sumT lot Q) lot Q Q.length = all := by
  have h1 := outS_lef (mode := mode) hl hQ ha haT hT Q.length (Nat.le_refl _)
  have h2 := lef2_rng (mode := mode) hl hQ ha haT hT Q.length (Nat.le_refl _)
  rcases full_or (mode := mode) hl hQ ha haT hT Q.length (Nat.le_refl _) with h | h
  · omega
  · rw [List.take_length] at h
    omega
theorem outS_rng (k : Nat) (hk : k ≤ Q.length) : 0 ≤ outS mode all (sumT lot Q) lot Q k ∧ outS mode all (sumT lot Q) lot Q k ≤ sumT lot (Q.take k) := by
  induction k with
  | zero => simp [outS, sumT]
  | succ k ih =>
    have h := ih (by omega)
    have ho := outN_rng (mode := mode) hl hQ ha haT hT k (by omega)
    have e := sumT_take lot Q k (by omega)
    simp only [outS, e]
    omega
end
end Go.Proofs.Ytdjbnnjcifgnlaa

namespace Go.Proofs.Ytdjbnnjcifgnlaa
open Go.RowKit

set_option maxHeartbeats 4000000 in
set_option maxRecDepth 100000 in
theorem trim_c (lot qty : Int) (hq : InR qty) (hl : InR lot) (w : World) :
    Calls Try.prog 41 #[.int .i64 lot, .int .i64 qty] w fun e w' => e = .returned (.int .i64 (trimN lot qty)) ∧ w = w' := by
  by_cases h1 : lot < 1
  · have h : Hid (trimN lot qty = 0) := by show _ = _; unfold trimN; rw [if_pos (.inl h1)]
    go_enter Try.func41, Try.ntmps41
    go_wp2_with fail
    go_ret
    rw [h.out]; exact ⟨rfl, rfl⟩
  by_cases h2 : qty < 1
  · have h : Hid (trimN lot qty = 0) := by show _ = _; unfold trimN; rw [if_pos (.inr h2)]
    go_enter Try.func41, Try.ntmps41
    go_wp2_with fail
    go_ret
    rw [h.out]; exact ⟨rfl, rfl⟩
  have ht := trim_bd (lot := lot) (qty := qty) (by omega) (by omega)
  obtain ⟨t, htt⟩ : ∃ t, t = trimN lot qty := ⟨_, rfl⟩
  rw [← htt] at ht ⊢
  obtain ⟨t0, t1, _, _, t4⟩ := ht
  obtain ⟨m, hm⟩ : ∃ m, m = qty % lot := ⟨_, rfl⟩
  have hm' : qty % lot = m := hm.symm
  rw [← hm] at t4
  have e1 : IntKind.i64.wrap (qty - m) = t := by unfold InR at hq hl; rw [IntKind.wrap_i64]; omega
  have e2 : qty - m = t := by omega
  have g1 : 1 ≤ lot := by omega
  have g3 : 1 ≤ qty := by omega
  have g5 : (lot == 0) = false := by simp; omega
  have g6 : 0 ≤ qty := by omega
  have g7 : qty ≤ 9223372036854775807 := hq.2
  have g8 : lot ≤ 9223372036854775807 := hl.2
  clear h1 h2 hq hl htt hm t4
  go_enter Try.func41, Try.ntmps41
  go_wp2_with fail
  go_ret
  exact ⟨rfl, rfl⟩

/-- The boxes of both numbers. -/
def LB (w : World) (c : Nat) (last band : Int) : Prop := Bx 2 w c (.int .i64 last) ∧ Bx 2 w (c + 1) (.int .i64 band)
theorem LB.below {w w' : World} {c : Nat} {last band : Int} (h : LB w c last band) (hb : Below w.heap.size w w') : LB w' c last band := ⟨(hb.block c (blk_lt h.1)).trans h.1, (hb.block _ (blk_lt h.2)).trans h.2⟩

end Go.Proofs.Ytdjbnnjcifgnlaa

namespace Go.Proofs.Ytdjbnnjcifgnlaa
open Go.RowKit Go.Lib

/-- The quantities of orders. -/
def qs (L : List Od) : List Int := L.map (·.qty)
theorem qs_len (L : List Od) : (qs L).length = L.length := List.length_map ..
theorem qs_get (L : List Od) (k : Nat) (h : k < L.length) : (qs L).getD k 0 = L[k]!.qty := by
  unfold qs
  rw [List.getD_eq_getElem?_getD, List.getElem?_map, List.getElem?_eq_getElem h, getElem!_pos L k h]; rfl
theorem okQ_snoc {Q : List Int} {k : Nat} (h : OkQ (Q.take k)) (hk : k < Q.length) (hq : 0 ≤ Q.getD k 0 ∧ Q.getD k 0 ≤ 1099511627776) : OkQ (Q.take (k + 1)) := by
  intro q hm
  rw [List.take_succ_eq_append_getElem hk, List.mem_append] at hm
  rcases hm with hm | hm
  · exact h q hm
  · rw [List.mem_singleton.1 hm]
    rw [List.getD_eq_getElem?_getD, List.getElem?_eq_getElem hk] at hq
    exact hq
theorem totN_bad {Q : List Int} {lot : Int} {k : Nat} (hk : k < Q.length) (hq : ¬ (0 ≤ Q.getD k 0 ∧ Q.getD k 0 ≤ 1099511627776)) : totN Q lot = 0 := by
  unfold totN
  refine if_pos (.inr (.inr (.inr fun h => hq ?_)))
  rw [List.getD_eq_getElem?_getD, List.getElem?_eq_getElem hk]
  exact h _ (List.getElem_mem hk)
theorem totN_good {Q : List Int} {lot : Int} (h1 : 1 ≤ lot) (h2 : lot ≤ 1099511627776) (h3 : Q.length ≤ 64) (hq : OkQ Q) : totN Q lot = sumT lot Q := by
  unfold totN
  exact if_neg (fun h => by rcases h with h | h | h | h; omega; omega; omega; exact h hq)
theorem sumT_step {lot : Int} {Q : List Int} {k : Nat} (h1 : 1 ≤ lot) (hk : k < Q.length) (hl : Q.length ≤ 64) (ho : OkQ (Q.take k)) (hq : 0 ≤ Q.getD k 0 ∧ Q.getD k 0 ≤ 1099511627776) :
    (0 ≤ sumT lot (Q.take k) ∧ sumT lot (Q.take k) ≤ 70368744177664) ∧ (0 ≤ trimN lot (Q.getD k 0) ∧ trimN lot (Q.getD k 0) ≤ 1099511627776) ∧ sumT lot (Q.take (k + 1)) = sumT lot (Q.take k) + trimN lot (Q.getD k 0) := by
  have a := sumT_bd h1 ho
  have b := trim_rng h1 hq.1
  have c : (Q.take k).length ≤ 64 := by simp; omega
  refine ⟨⟨a.1, by omega⟩, ⟨b.1, by omega⟩, sumT_take lot Q k hk⟩

set_option maxHeartbeats 4000000 in
set_option maxRecDepth 100000 in
theorem total_c (A : Option Addr) (n c : Nat) (L : List Od) (lot : Int) (hlot : InR lot) (w : World) (H : Ods w A n L) (hn : n ≤ 1000) :
    Calls Try.prog 40 #[.slice A n c, .int .i64 lot] w fun e w' => e = .returned (.int .i64 (totN (qs L) lot)) ∧ Below w.heap.size w w' := by
  have HO : Aside (Ods w A n L) := H
  have HLn := Lib.hid H.1
  clear H
  obtain ⟨T, hT⟩ : ∃ T, T = totN (qs L) lot := ⟨_, rfl⟩
  rw [← hT]
  have HT := Lib.hid hT
  clear hT
  by_cases h1 : lot < 1
  · have h : Hid (T = 0) := Lib.hid (HT.out.trans (if_pos (.inl h1)))
    clear HT
    go_enter Try.func40, Try.ntmps40
    go_wp2_with fail
    go_ret
    rw [h.out]; exact ⟨rfl, Below.refl _ _⟩
  by_cases h2 : 1099511627776 < lot
  · have h : Hid (T = 0) := Lib.hid (HT.out.trans (if_pos (.inr (.inl h2))))
    clear HT
    go_enter Try.func40, Try.ntmps40
    go_wp2_with fail
    go_ret
    rw [h.out]; exact ⟨rfl, Below.refl _ _⟩
  by_cases h3 : 64 < n
  · have h : Hid (T = 0) := Lib.hid (HT.out.trans (if_pos (.inr (.inr (.inl (by rw [qs_len, HLn.out]; exact h3))))))
    clear HT
    have h3I : (64 : Int) < (n : Int) := by omega
    go_enter Try.func40, Try.ntmps40
    go_wp2_with fail
    go_ret
    rw [h.out]; exact ⟨rfl, Below.refl _ _⟩
  have g1 : 1 ≤ lot := by omega
  have g2 : lot ≤ 1099511627776 := by omega
  have g3 : ¬ (64 : Int) < (n : Int) := by omega
  have g4 : n ≤ 64 := by omega
  clear h1 h2 h3
  go_enter Try.func40, Try.ntmps40
  go_wp2_with fail
  go_loopg [5, 21] n (fun kx s5 s21 wr => ∃ k : Nat, s21 = .int .i64 k ∧ k ≤ n ∧ n - k ≤ kx ∧ s5 = .int .i64 (sumT lot ((qs L).take k)) ∧ Hid (OkQ ((qs L).take k)) ∧ Hid (Below w.heap.size w wr))
  case atStart => exact ⟨0, rfl, by omega, by omega, rfl, Lib.hid (fun q h => by simp at h), Lib.hid (Below.refl _ _)⟩
  case round =>
    obtain ⟨k, rfl, hk, hkx, rfl, hok, hd⟩ := hrel
    by_cases hlt : k < n
    · have hltI : (k : Int) < (n : Int) := by omega
      have h1 := (HO.out.below hd.out).2.2.2
      rcases h1 with h1 | ⟨b, off, rfl, _, hc⟩
      · omega
      have hx := hc k hlt
      clear hc
      have hxk := (HO.out.below hd.out).2.2.1
      have HQ := Lib.hid (qs_get L k (by rw [HLn.out]; exact hlt))
      obtain ⟨x, ex⟩ : ∃ x, L[k]! = x := ⟨_, rfl⟩
      rw [ex] at hx HQ
      clear ex hxk
      obtain ⟨x0, x1, x2, x3, x4, x5⟩ := hx
      have hsz := hd.out.size
      by_cases q1 : x.qty < 0
      · have h : Hid (T = 0) := Lib.hid (HT.out.trans (totN_bad (k := k) (by rw [qs_len, HLn.out]; exact hlt) (by rw [HQ.out]; omega)))
        have hB : Hid (Below w.heap.size w (wr.alloc (Obj.cells #[.int .u64 x.id, .int .i64 x.acc, .int .i64 x.side, .int .i64 x.price, .int .i64 x.qty, .int .u64 x.seq] 42))) := Lib.hid (hd.out.alloc hsz _)
        clear hok HT HQ hd
        go_wp2_with fail
        go_ret
        rw [h.out]; exact ⟨rfl, hB.out⟩
      by_cases q2 : 1099511627776 < x.qty
      · have h : Hid (T = 0) := Lib.hid (HT.out.trans (totN_bad (k := k) (by rw [qs_len, HLn.out]; exact hlt) (by rw [HQ.out]; omega)))
        have hB : Hid (Below w.heap.size w (wr.alloc (Obj.cells #[.int .u64 x.id, .int .i64 x.acc, .int .i64 x.side, .int .i64 x.price, .int .i64 x.qty, .int .u64 x.seq] 42))) := Lib.hid (hd.out.alloc hsz _)
        clear hok HT HQ hd
        go_wp2_with fail
        go_ret
        rw [h.out]; exact ⟨rfl, hB.out⟩
      have q3 : 0 ≤ x.qty := by omega
      have q4 : x.qty ≤ 1099511627776 := by omega
      have hst := sumT_step (lot := lot) (Q := qs L) (k := k) g1 (by rw [qs_len, HLn.out]; exact hlt) (by rw [qs_len, HLn.out]; exact g4) hok.out (by rw [HQ.out]; exact ⟨q3, q4⟩)
      rw [HQ.out] at hst
      obtain ⟨⟨s1, s2⟩, ⟨t1, t2⟩, hs⟩ := hst
      have hok2 : Hid (OkQ ((qs L).take (k + 1))) := Lib.hid (okQ_snoc hok.out (by rw [qs_len, HLn.out]; exact hlt) (by rw [HQ.out]; exact ⟨q3, q4⟩))
      have HTr : Hid (∀ w, Calls Try.prog 41 #[.int .i64 lot, .int .i64 x.qty] w fun e w' => e = .returned (.int .i64 (trimN lot x.qty)) ∧ w = w') := Lib.hid (fun w => trim_c lot x.qty ⟨by omega, by omega⟩ hlot w)
      generalize sumT lot ((qs L).take k) = S at *
      generalize trimN lot x.qty = t at *
      have HS := Lib.hid hs
      have hB : Hid (Below w.heap.size w (wr.alloc (Obj.cells #[.int .u64 x.id, .int .i64 x.acc, .int .i64 x.side, .int .i64 x.price, .int .i64 x.qty, .int .u64 x.seq] 42))) := Lib.hid (hd.out.alloc hsz _)
      clear hok HQ hd hs hlot
      go_wp2_with ((with_reducible refine (HTr.out _).mono ?_); rintro e w' ⟨rfl, rfl⟩)
      go_roundg (n - (k + 1))
      case measure => omega
      case rel => exact ⟨k + 1, by go_num, by omega, by omega, by rw [HS.out], hok2, hB⟩
    · have hltI : ¬ (k : Int) < (n : Int) := by omega
      obtain rfl : k = n := by omega
      have h : Hid (T = sumT lot ((qs L).take k)) := by
        have e : (qs L).take k = qs L := List.take_of_length_le (by rw [qs_len, HLn.out]; exact Nat.le_refl _)
        have ho := hok.out
        rw [e] at ho ⊢
        exact Lib.hid (HT.out.trans (totN_good g1 g2 (by rw [qs_len, HLn.out]; exact g4) ho))
      generalize sumT lot ((qs L).take k) = S at *
      clear hok HT
      go_wp2_with fail
      go_ret
      rw [h.out]; exact ⟨rfl, hd.out⟩
end Go.Proofs.Ytdjbnnjcifgnlaa

namespace Go.Proofs.Ytdjbnnjcifgnlaa
open Go.RowKit Go.Lib
set_option linter.unusedVariables false

/-- What the closure goes by: the orders, the lot, the parts, what is left. -/
structure Hst (w : World) (lB tB pB fB aB : Nat) (A : Option Addr) (n c : Nat) (lot left : Int) (f : Nat → Int) : Prop where
  l : Bx 22 w lB (.slice A n c)
  t : Bx 2 w tB (.int .i64 lot)
  p : Bx 31 w pB (.slice (some ⟨aB, 0, none⟩) n n)
  e : Bx 2 w fB (.int .i64 left)
  a : w.rowIs aB 2 n (fun i => .int .i64 (f i))

def HandIs (w : World) (aB fB i : Nat) (v left : Int) (e : Ending) (w' : World) : Prop :=
  e = .returned (.tuple #[]) ∧ ∃ q, w' = ((w.drewN q).setCell ⟨aB, i, none⟩ (.int .i64 v)).setCell ⟨fB, 0, none⟩ (.int .i64 left)

set_option maxHeartbeats 4000000 in
set_option maxRecDepth 100000 in
theorem hand_c (lB tB pB fB aB : Nat) (A : Option Addr) (n c : Nat) (L : List Od) (lot left : Int) (f : Nat → Int) (i : Nat) (m d z t : Int) (w : World)
    (H : Hst w lB tB pB fB aB A n c lot left f) (HO : Ods w A n L) (hi : i < n) (hn : n ≤ 1000) (hlot : InR lot) (hz : z = f i)
    (hq : InR L[i]!.qty) (ht : t = trimN lot L[i]!.qty) (h0 : 0 ≤ z ∧ z ≤ t) (h1 : t ≤ 1099511627776) (h2 : 0 ≤ left ∧ left ≤ 70368744177664) (h3 : 0 ≤ m ∧ m ≤ 70368744177664) (hd : d = min m (min left (t - z))) (hne : fB ≠ aB) :
    Calls Try.prog 42 #[.int .i64 i, .int .i64 m, .pointer (some ⟨fB, 0, none⟩), .pointer (some ⟨tB, 0, none⟩), .pointer (some ⟨lB, 0, none⟩), .pointer (some ⟨pB, 0, none⟩)] w (HandIs w aB fB i (z + d) (left - d)) := by
  obtain ⟨b, off, rfl, hb, hc⟩ : ∃ b off, A = some ⟨b, off, none⟩ ∧ b < w.heap.size ∧ ∀ i, i < n → (L[i]!).at w b (off + i * 6) := by
    rcases HO.2.2.2 with h | h
    · omega
    · exact h
  have kq := (hc i hi).2.2.2.2.1
  have k1 := H.l.c0
  have k2 := H.t.c0
  have k3 := H.p.c0
  have k4 := H.e.c0
  have k5 : w.cell? ⟨aB, i, none⟩ = some (.int .i64 z) := by rw [hz]; exact H.a.cell hi
  have f4 := H.e.f0
  have HE : Aside (Bx 2 w fB (.int .i64 left)) := H.e
  have f5 := H.a.frozen i
  have HT : Hid (∀ w, Calls Try.prog 41 #[.int .i64 lot, .int .i64 L[i]!.qty] w fun e w' => e = .returned (.int .i64 t) ∧ w' = w) := Lib.hid (fun w => by rw [ht]; exact (trim_c lot _ hq hlot w).mono fun _ _ h => ⟨h.1, h.2.symm⟩)
  have HD := Lib.hid hd
  generalize L[i]!.qty = q at *
  have hiI : (i : Int) < (n : Int) := by omega
  have hi0 : (0 : Int) ≤ (i : Int) := by omega
  clear H HO hz ht hd hc hlot hq
  go_enter Try.func42, Try.ntmps42
  go_wp2_with fail
  go_quiet (((with_reducible exact Calls.quiet_of_same (HT.out _))))
  have e : (if t - z < if left < m then left else m then t - z else if left < m then left else m) = d := by
    rw [HD.out]
    split <;> split <;> omega
  rw [e]
  have d0 : 0 ≤ d ∧ d ≤ t - z ∧ d ≤ left := by rw [HD.out]; omega
  obtain ⟨d1, d2, d3⟩ := d0
  clear e HD HT kq k1 k2
  have k6 : ((w.drewN nq).setCell ⟨aB, i, none⟩ (.int .i64 (z + d))).cell? ⟨fB, 0, none⟩ = some (.int .i64 left) := by
    have h : Bx 2 ((w.drewN nq).setCell ⟨aB, i, none⟩ (.int .i64 (z + d))) fB (.int .i64 left) := (heap_far hne).trans HE.out
    exact h.c0
  have f6 : ((w.drewN nq).setCell ⟨aB, i, none⟩ (.int .i64 (z + d))).frozen? ⟨fB, 0, none⟩ = false := by
    have h : Bx 2 ((w.drewN nq).setCell ⟨aB, i, none⟩ (.int .i64 (z + d))) fB (.int .i64 left) := (heap_far hne).trans HE.out
    exact h.f0
  go_wp2_with fail
  go_end0
  exact ⟨rfl, nq, rfl⟩

theorem Hst.handed {w : World} {lB tB pB fB aB : Nat} {A : Option Addr} {n c : Nat} {lot left : Int} {f : Nat → Int} (H : Hst w lB tB pB fB aB A n c lot left f) (q i : Nat) (v l2 : Int) (g : Nat → Int)
    (hg : ∀ j, j < n → g j = if j = i then v else f j) (d1 : lB ≠ aB) (d2 : lB ≠ fB) (d3 : tB ≠ aB) (d4 : tB ≠ fB) (d5 : pB ≠ aB) (d6 : pB ≠ fB) (d7 : fB ≠ aB) :
    Hst (((w.drewN q).setCell ⟨aB, i, none⟩ (.int .i64 v)).setCell ⟨fB, 0, none⟩ (.int .i64 l2)) lB tB pB fB aB A n c lot l2 g := by
  refine ⟨(heap_far d2).trans ((heap_far d1).trans H.l), (heap_far d4).trans ((heap_far d3).trans H.t), (heap_far d6).trans ((heap_far d5).trans H.p), Bx.set ((heap_far d7).trans H.e) _, ?_⟩
  have h : (w.drewN q).rowIs aB 2 n (fun i => .int .i64 (f i)) := H.a
  refine ((h.set i (.int .i64 v)).setOther (Ne.symm d7) _).congr (fun j hj => ?_)
  rw [hg j hj]
  show (if j = i then Value.int .i64 v else .int .i64 (f j)) = _
  split <;> rfl
theorem Hst.below {w w' : World} {lB tB pB fB aB : Nat} {A : Option Addr} {n c : Nat} {lot left : Int} {f : Nat → Int} (H : Hst w lB tB pB fB aB A n c lot left f) (hb : Below w.heap.size w w') : Hst w' lB tB pB fB aB A n c lot left f :=
  ⟨(hb.block _ (blk_lt H.l)).trans H.l, (hb.block _ (blk_lt H.t)).trans H.t, (hb.block _ (blk_lt H.p)).trans H.p, (hb.block _ (blk_lt H.e)).trans H.e, H.a.of_block (hb.block _ H.a.lt)⟩
end Go.Proofs.Ytdjbnnjcifgnlaa

namespace Go.Proofs.Ytdjbnnjcifgnlaa
open Go.RowKit Go.Lib
set_option linter.unusedVariables false

theorem below_drewN {B : Nat} {a w : World} (h : Below B a w) (n : Nat) : Below B a (w.drewN n) := ⟨h.os, h.tape, h.output, h.size, h.block⟩
/-- There is nothing to be shared. -/
def NoSh (mode : Int) (Q : List Int) (qty lot : Int) : Prop := ¬ (mode = 1 ∨ mode = 2) ∨ totN Q lot = 0 ∨ qty < 1 ∨ 4611686018427387904 < qty
theorem tot_on {wr w : World} {A : Option Addr} {n c : Nat} {L : List Od} {lot : Int} (hlot : InR lot) (HO : Ods w A n L) (hn : n ≤ 1000) :
    ∀ wr, Below w.heap.size w wr → Calls Try.prog 40 #[.slice A n c, .int .i64 lot] wr fun e w' => e = .returned (.int .i64 (totN (qs L) lot)) ∧ Below wr.heap.size wr w' :=
  fun wr hb => total_c A n c L lot hlot wr (HO.below hb) hn

set_option maxHeartbeats 4000000 in
set_option maxRecDepth 100000 in
theorem share_no (mode : Int) (A : Option Addr) (n c : Nat) (L : List Od) (qty lot : Int) (hlot : InR lot) (w : World) (HO : Ods w A n L) (hn : n ≤ 1000) (hno : NoSh mode (qs L) qty lot) :
    Calls Try.prog 27 #[.int .i64 mode, .slice A n c, .int .i64 qty, .int .i64 lot] w fun e w' => e = .returned (.slice none 0 0) ∧ Below w.heap.size w w' := by
  obtain ⟨T, hT⟩ : ∃ T, T = totN (qs L) lot := ⟨_, rfl⟩
  have HTot : Hid (∀ wr, Below w.heap.size w wr → Calls Try.prog 40 #[.slice A n c, .int .i64 lot] wr fun e w' => e = .returned (.int .i64 T) ∧ Below wr.heap.size wr w') := Lib.hid (by rw [hT]; exact tot_on (wr := w) hlot HO hn)
  have hb0 : Below w.heap.size w ((w.alloc (.cells #[.slice A n c] 22)).alloc (.cells #[.int .i64 lot] 2)) := ((Below.refl _ _).alloc (Nat.le_refl _) _).alloc (by simp) _
  unfold NoSh at hno
  rw [← hT] at hno
  clear HO hlot hT
  by_cases m1 : mode = 1
  · subst m1
    by_cases z : T = 0
    · subst z; clear hno
      go_enter Try.func27, Try.ntmps27
      go_wp2_with fail
      ((with_reducible refine (HTot.out _ hb0).mono ?_); rintro e w2 ⟨rfl, b2⟩)
      have hB := hb0.trans (b2.mono hb0.size)
      go_wp2_with fail
      go_ret
      exact ⟨rfl, hB⟩
    have z1 : (T == 0) = false := by simp [z]
    by_cases q1 : qty < 1
    · clear hno z
      have q2 : decide (qty < 1) = true := decide_eq_true q1
      go_enter Try.func27, Try.ntmps27
      go_wp2_with fail
      ((with_reducible refine (HTot.out _ hb0).mono ?_); rintro e w2 ⟨rfl, b2⟩)
      have hB := hb0.trans (b2.mono hb0.size)
      go_wp2_with fail
      go_ret
      exact ⟨rfl, hB⟩
    have q3 : 4611686018427387904 < qty := by omega
    have q4 : decide (qty < 1) = false := decide_eq_false q1
    have q5 : decide (4611686018427387904 < qty) = true := decide_eq_true q3
    clear hno z
    go_enter Try.func27, Try.ntmps27
    go_wp2_with fail
    ((with_reducible refine (HTot.out _ hb0).mono ?_); rintro e w2 ⟨rfl, b2⟩)
    have hB := hb0.trans (b2.mono hb0.size)
    go_wp2_with fail
    go_ret
    exact ⟨rfl, hB⟩
  by_cases m2 : mode = 2
  · subst m2
    by_cases z : T = 0
    · subst z; clear hno
      go_enter Try.func27, Try.ntmps27
      go_wp2_with fail
      ((with_reducible refine (HTot.out _ hb0).mono ?_); rintro e w2 ⟨rfl, b2⟩)
      have hB := hb0.trans (b2.mono hb0.size)
      go_wp2_with fail
      go_ret
      exact ⟨rfl, hB⟩
    have z1 : (T == 0) = false := by simp [z]
    by_cases q1 : qty < 1
    · clear hno z
      have q2 : decide (qty < 1) = true := decide_eq_true q1
      go_enter Try.func27, Try.ntmps27
      go_wp2_with fail
      ((with_reducible refine (HTot.out _ hb0).mono ?_); rintro e w2 ⟨rfl, b2⟩)
      have hB := hb0.trans (b2.mono hb0.size)
      go_wp2_with fail
      go_ret
      exact ⟨rfl, hB⟩
    have q3 : 4611686018427387904 < qty := by omega
    have q4 : decide (qty < 1) = false := decide_eq_false q1
    have q5 : decide (4611686018427387904 < qty) = true := decide_eq_true q3
    clear hno z
    go_enter Try.func27, Try.ntmps27
    go_wp2_with fail
    ((with_reducible refine (HTot.out _ hb0).mono ?_); rintro e w2 ⟨rfl, b2⟩)
    have hB := hb0.trans (b2.mono hb0.size)
    go_wp2_with fail
    go_ret
    exact ⟨rfl, hB⟩
  have e1 : (mode == 1) = false := by simp [m1]
  have e2 : (mode != 1) = true := by simp [m1]
  have e3 : (mode == 2) = false := by simp [m2]
  have e4 : (mode != 2) = true := by simp [m2]
  clear hno m1 m2
  go_enter Try.func27, Try.ntmps27
  go_wp2_with fail
  ((with_reducible refine (HTot.out _ hb0).mono ?_); rintro e w2 ⟨rfl, b2⟩)
  have hB := hb0.trans (b2.mono hb0.size)
  go_wp2_with fail
  go_ret
  exact ⟨rfl, hB⟩

/-- While the first parts are told. -/
structure St1 (w wr : World) (m : Nat) (A : Option Addr) (n c : Nat) (lot mode all T : Int) (Q : List Int) (k : Nat) : Prop where
  s : Hst wr w.heap.size (w.heap.size + 1) (m + 1) (m + 2) m A n c lot (lef1 mode all T lot Q k) (fun j => if j < k then p1 mode all T lot (Q.getD j 0) else 0)
  b : Below w.heap.size w wr
  m : w.heap.size + 2 ≤ m
/-- While what is left is handed out. -/
structure St2 (w wr : World) (m : Nat) (A : Option Addr) (n c : Nat) (lot mode all T : Int) (Q : List Int) (k : Nat) : Prop where
  s : Hst wr w.heap.size (w.heap.size + 1) (m + 1) (m + 2) m A n c lot (lef2 mode all T lot Q k) (fun j => if j < k then outN mode all T lot Q j else p1 mode all T lot (Q.getD j 0))
  b : Below w.heap.size w wr
  m : w.heap.size + 2 ≤ m
theorem St1.next {w wr : World} {m n c k : Nat} {A : Option Addr} {lot mode all T : Int} {Q : List Int} (h : St1 w wr m A n c lot mode all T Q k) {w1 : World} (hb : Below wr.heap.size wr w1) (q : Nat) (d : Int) (hd : d = p1 mode all T lot (Q.getD k 0)) :
    St1 w (((w1.drewN q).setCell ⟨m, k, none⟩ (.int .i64 (0 + d))).setCell ⟨m + 2, 0, none⟩ (.int .i64 (lef1 mode all T lot Q k - d))) m A n c lot mode all T Q (k + 1) := by
  have hm := h.m
  refine ⟨?_, ((below_drewN (h.b.trans (hb.mono h.b.size)) q).setCell (by show w.heap.size ≤ m; omega) _).setCell (by show w.heap.size ≤ m + 2; omega) _, hm⟩
  have e : lef1 mode all T lot Q (k + 1) = lef1 mode all T lot Q k - d := by rw [hd]; rfl
  rw [e]
  refine (h.s.below hb).handed q k (0 + d) (lef1 mode all T lot Q k - d) _ (fun j hj => ?_) (by omega) (by omega) (by omega) (by omega) (by omega) (by omega) (by omega)
  by_cases e1 : j = k
  · subst e1; rw [if_pos (by omega), if_pos rfl, hd]; omega
  · rw [if_neg e1]
    by_cases e2 : j < k
    · rw [if_pos (by omega), if_pos e2]
    · rw [if_neg (by omega), if_neg e2]
theorem St2.next {w wr : World} {m n c k : Nat} {A : Option Addr} {lot mode all T : Int} {Q : List Int} (h : St2 w wr m A n c lot mode all T Q k) (q : Nat) (z d : Int) (hz : z = p1 mode all T lot (Q.getD k 0)) (hd : d = min (lef2 mode all T lot Q k) (trimN lot (Q.getD k 0) - z)) :
    St2 w (((wr.drewN q).setCell ⟨m, k, none⟩ (.int .i64 (z + d))).setCell ⟨m + 2, 0, none⟩ (.int .i64 (lef2 mode all T lot Q k - d))) m A n c lot mode all T Q (k + 1) := by
  have hm := h.m
  refine ⟨?_, ((below_drewN h.b q).setCell (by show w.heap.size ≤ m; omega) _).setCell (by show w.heap.size ≤ m + 2; omega) _, hm⟩
  have e : lef2 mode all T lot Q (k + 1) = lef2 mode all T lot Q k - d := by rw [hd, hz]; rfl
  rw [e]
  refine h.s.handed q k (z + d) (lef2 mode all T lot Q k - d) _ (fun j hj => ?_) (by omega) (by omega) (by omega) (by omega) (by omega) (by omega) (by omega)
  by_cases e1 : j = k
  · subst e1; rw [if_pos (by omega), if_pos rfl, hd, hz]; rfl
  · rw [if_neg e1]
    by_cases e2 : j < k
    · rw [if_pos (by omega), if_pos e2]
    · rw [if_neg (by omega), if_neg e2]
theorem St1.st2 {w wr : World} {m n c : Nat} {A : Option Addr} {lot mode all T : Int} {Q : List Int} (h : St1 w wr m A n c lot mode all T Q n) (hn : Q.length = n) : St2 w wr m A n c lot mode all T Q 0 := by
  refine ⟨⟨h.s.l, h.s.t, h.s.p, ?_, h.s.a.congr (fun j hj => ?_)⟩, h.b, h.m⟩
  · have e : lef2 mode all T lot Q 0 = lef1 mode all T lot Q n := by show lef1 mode all T lot Q Q.length = _; rw [hn]
    rw [e]; exact h.s.e
  · show Value.int .i64 (if j < n then _ else 0) = .int .i64 (if j < 0 then _ else _)
    rw [if_pos hj, if_neg (by omega)]
theorem st1_new (w w2 : World) (A : Option Addr) (n c : Nat) (lot mode all T : Int) (Q : List Int) (hb : Below (w.heap.size + 2) ((w.alloc (.cells #[.slice A n c] 22)).alloc (.cells #[.int .i64 lot] 2)) w2) :
    St1 w (((w2.alloc (.cells (madeCells #[.int .i64 0] n) 2)).alloc (.cells #[.slice (some ⟨w2.heap.size, 0, none⟩) n n] 31)).alloc (.cells #[.int .i64 all] 2)) w2.heap.size A n c lot mode all T Q 0 := by
  have hs := hb.size
  simp at hs
  have b0 : Below w.heap.size w w2 := (((Below.refl _ _).alloc (Nat.le_refl _) _).alloc (by simp) _).trans (hb.mono (by omega))
  have k0 : w2.heap[w.heap.size]? = some (.cells #[.slice A n c] 22 (0, 0)) := (hb.block _ (by omega)).trans (heap_prev (by simp) (heap_last rfl))
  have k1 : w2.heap[w.heap.size + 1]? = some (.cells #[.int .i64 lot] 2 (0, 0)) := (hb.block _ (by omega)).trans (heap_last (by simp))
  refine ⟨⟨Bx.alloc (Bx.alloc (Bx.alloc k0 _) _) _, Bx.alloc (Bx.alloc (Bx.alloc k1 _) _) _, Bx.alloc (heap_last (by simp)) _, heap_last (by simp), ?_⟩, ((b0.alloc b0.size _).alloc (by simp; omega) _).alloc (by simp; omega) _, by omega⟩
  exact ((World.rowIs_made w2 (.int .i64 0) n _).alloc _).alloc _ |>.congr (fun j hj => by simp)
end Go.Proofs.Ytdjbnnjcifgnlaa

namespace Go.Proofs.Ytdjbnnjcifgnlaa
open Go.RowKit Go.Lib
set_option linter.unusedVariables false

/-- Shares in a row of the call's own. -/
def Shd (w : World) (n : Nat) (g : Nat → Int) (e : Ending) (w' : World) : Prop :=
  ∃ b, e = .returned (.slice (some ⟨b, 0, none⟩) n n) ∧ w.heap.size ≤ b ∧ Below w.heap.size w w' ∧ w'.rowIs b 2 n (fun i => .int .i64 (g i))
theorem info_i64 : (Try.prog.info? 2).map (fun i => (i.zero, i.size, i.bytes)) = some (some (.int .i64 0), 1, 8) := by kernel_rfl
/-- What is known where there is something to be shared. -/
structure ShOk (Q : List Int) (qty lot : Int) : Prop where
  l1 : 1 ≤ lot
  l2 : lot ≤ 1099511627776
  n : Q.length ≤ 64
  q : OkQ Q
  t : totN Q lot = sumT lot Q
  t1 : 0 < sumT lot Q
  t2 : sumT lot Q ≤ 70368744177664
  y1 : 1 ≤ qty
  y2 : qty ≤ 4611686018427387904
theorem shOk {mode qty lot : Int} {Q : List Int} (h : ¬ NoSh mode Q qty lot) : (mode = 1 ∨ mode = 2) ∧ ShOk Q qty lot := by
  unfold NoSh at h
  have h1 : totN Q lot ≠ 0 := fun e => h (.inr (.inl e))
  have hb := totN_bd Q lot
  have hc : ¬ (lot < 1 ∨ 1099511627776 < lot ∨ 64 < Q.length ∨ ¬ OkQ Q) := fun e => h1 (if_pos e)
  have ht : totN Q lot = sumT lot Q := if_neg hc
  refine ⟨Classical.byContradiction fun e => h (.inl e), ?_, ?_, ?_, Classical.byContradiction fun e => hc (.inr (.inr (.inr e))), ht, ?_, ?_, ?_, ?_⟩ <;> omega
theorem all_bd {Q : List Int} {qty lot : Int} (h : ShOk Q qty lot) : 0 ≤ allN lot qty (sumT lot Q) ∧ allN lot qty (sumT lot Q) ≤ sumT lot Q := by
  have := trim_rng (lot := lot) (q := qty) h.l1 (by have := h.y1; omega)
  have := h.t1
  unfold allN
  omega

/-- What the first loop's region reads, behind a call that makes memory. -/
theorem keep3 {wr w' w3 : World} {h b o : Nat} {v : Value} {lot q : Int} (hb : Below w'.heap.size w' w3) (H : Below wr.heap.size wr w' ∧ w'.cell? ⟨h, 0, none⟩ = some v ∧ w'.cell? ⟨h + 1, 0, none⟩ = some (.int .i64 lot) ∧ w'.cell? ⟨b, o, none⟩ = some (.int .i64 q)) :
    Below wr.heap.size wr w3 ∧ w3.cell? ⟨h, 0, none⟩ = some v ∧ w3.cell? ⟨h + 1, 0, none⟩ = some (.int .i64 lot) ∧ w3.cell? ⟨b, o, none⟩ = some (.int .i64 q) := by
  obtain ⟨h0, h1, h2, h3⟩ := H
  exact ⟨h0.trans (hb.mono h0.size), (hb.cell (p := ⟨h, 0, none⟩) (block_lt_of_cell h1)).trans h1, (hb.cell (p := ⟨h + 1, 0, none⟩) (block_lt_of_cell h2)).trans h2, (hb.cell (p := ⟨b, o, none⟩) (block_lt_of_cell h3)).trans h3⟩

/-- By time nobody gets something first. -/
theorem lef1_time (all T lot : Int) (Q : List Int) (k : Nat) : lef1 1 all T lot Q k = all := by
  induction k with
  | zero => rfl
  | succ k ih => show lef1 1 all T lot Q k - p1 1 all T lot (Q.getD k 0) = all; rw [ih]; unfold p1; rw [if_neg (by omega)]; omega
theorem st2_of {w wr : World} {m n c : Nat} {A : Option Addr} {lot all T : Int} {Q : List Int} (h : St1 w wr m A n c lot 1 all T Q 0) : St2 w wr m A n c lot 1 all T Q 0 := by
  refine ⟨⟨h.s.l, h.s.t, h.s.p, ?_, h.s.a.congr (fun j hj => ?_)⟩, h.b, h.m⟩
  · have e : lef2 1 all T lot Q 0 = lef1 1 all T lot Q 0 := by show lef1 1 all T lot Q Q.length = _; rw [lef1_time, lef1_time]
    rw [e]; exact h.s.e
  · show Value.int .i64 (if j < 0 then _ else 0) = .int .i64 (if j < 0 then _ else p1 1 all T lot (Q.getD j 0))
    rw [if_neg (by omega), if_neg (by omega)]
    unfold p1; rw [if_neg (by omega)]

set_option maxHeartbeats 4000000 in
set_option maxRecDepth 100000 in
theorem share_1 (A : Option Addr) (n c : Nat) (L : List Od) (qty lot : Int) (hlot : InR lot) (w : World) (HO : Ods w A n L) (hn : n ≤ 1000) (hok : ShOk (qs L) qty lot) :
    Calls Try.prog 27 #[.int .i64 1, .slice A n c, .int .i64 qty, .int .i64 lot] w (Shd w n (outN 1 (allN lot qty (sumT lot (qs L))) (sumT lot (qs L)) lot (qs L))) := by
  have hql : (qs L).length = n := by rw [qs_len]; exact HO.1
  obtain ⟨T, hT⟩ : ∃ T, T = sumT lot (qs L) := ⟨_, rfl⟩
  obtain ⟨tq, htq⟩ : ∃ t, t = trimN lot qty := ⟨_, rfl⟩
  obtain ⟨all, hall⟩ : ∃ a, a = allN lot qty T := ⟨_, rfl⟩
  have HTot : Hid (∀ wr, Below w.heap.size w wr → Calls Try.prog 40 #[.slice A n c, .int .i64 lot] wr fun e w' => e = .returned (.int .i64 T) ∧ Below wr.heap.size wr w') := Lib.hid (by rw [hT, ← hok.t]; exact tot_on (wr := w) hlot HO hn)
  have hb0 : Below w.heap.size w ((w.alloc (.cells #[.slice A n c] 22)).alloc (.cells #[.int .i64 lot] 2)) := ((Below.refl _ _).alloc (Nat.le_refl _) _).alloc (by simp) _
  have hab := all_bd hok
  rw [← hT, ← hall] at hab
  have HTq : Hid (∀ w, Calls Try.prog 41 #[.int .i64 lot, .int .i64 qty] w fun e w' => e = .returned (.int .i64 tq) ∧ w = w') := Lib.hid (fun w => by rw [htq]; exact trim_c lot qty ⟨by have := hok.y1; omega, by have := hok.y2; omega⟩ hlot w)
  have eall : min tq T = all := by rw [hall, htq]; rfl
  have HOK : Hid (ShOk (qs L) qty lot) := Lib.hid hok
  have HQ : Hid (T = sumT lot (qs L) ∧ all = allN lot qty T ∧ (qs L).length = n) := Lib.hid ⟨hT, hall, hql⟩
  have h64 : n ≤ 64 := by have := hok.n; omega
  have hz1 : (T == 0) = false := by have := hok.t1; simp; omega
  have hz2 : decide (qty < 1) = false := decide_eq_false (by have := hok.y1; omega)
  have hz3 : decide (4611686018427387904 < qty) = false := decide_eq_false (by have := hok.y2; omega)
  have hT2 : 0 < T ∧ T ≤ 70368744177664 := by rw [hT]; exact ⟨hok.t1, hok.t2⟩
  have HOd : Aside (Ods w A n L) := HO
  rw [← hT, ← hall]
  clear hT htq hall hql hok HO
  have hmk := run_make_row' (P := Try.prog) 31 2 (.int .i64 0) 8 Try.underlying31 info_i64 rfl .i64 .i64 n (by omega) (by omega)
  go_enter Try.func27, Try.ntmps27
  go_wp2_with fail
  ((with_reducible refine (HTot.out _ hb0).mono ?_); rintro e w2 ⟨rfl, b2⟩)
  have hs1 := b2.size
  simp only [World.size_alloc] at hs1
  have k0 : w2.cell? ⟨w.heap.size, 0, none⟩ = some (.slice A n c) := by
    have h : Bx 22 w2 w.heap.size (.slice A n c) := (b2.block _ (by simp; omega)).trans (heap_prev (by simp) (heap_last rfl))
    exact h.c0
  have k1 : w2.cell? ⟨w.heap.size + 1, 0, none⟩ = some (.int .i64 lot) := by
    have h : Bx 2 w2 (w.heap.size + 1) (.int .i64 lot) := (b2.block _ (by simp)).trans (heap_last (by simp))
    exact h.c0
  have HS0 : Hid (St1 w (((w2.alloc (.cells (madeCells #[.int .i64 0] n) 2)).alloc (.cells #[.slice (some ⟨w2.heap.size, 0, none⟩) n n] 31)).alloc (.cells #[.int .i64 all] 2)) w2.heap.size A n c lot 1 all T (qs L) 0) := Lib.hid (st1_new w w2 A n c lot 1 all T (qs L) (b2.mono (by simp)))
  have j0 := HS0.out.s.l.c0
  have j1 := HS0.out.s.t.c0
  clear b2 hb0 HTot
  go_wp2_with ((with_reducible refine (HTq.out _).mono ?_); rintro e w' ⟨rfl, rfl⟩)
  clear HTq
  have HS2 : Hid (St2 w (((w2.alloc (.cells (madeCells #[.int .i64 0] n) 2)).alloc (.cells #[.slice (some ⟨w2.heap.size, 0, none⟩) n n] 31)).alloc (.cells #[.int .i64 all] 2)) w2.heap.size A n c lot 1 all T (qs L) 0) := Lib.hid (st2_of HS0.out)
  clear HS0
  go_loopg [78] n (fun kx s78 wr => ∃ k : Nat, s78 = .int .i64 k ∧ k ≤ n ∧ n - k ≤ kx ∧ Hid (St2 w wr w2.heap.size A n c lot 1 all T (qs L) k))
  case atStart => exact ⟨0, rfl, by omega, by omega, HS2⟩
  case round =>
    clear HS2 j0 j1 k0 k1
    obtain ⟨k, rfl, hk, hkx, HS⟩ := hrel
    by_cases hlt : k < n
    · have hltI : (k : Int) < (n : Int) := by omega
      have hk0 : (0 : Int) ≤ (k : Int) := by omega
      have HO2 : Aside (Ods wr A n L) := HOd.out.below HS.out.b
      have hqi : InR L[k]!.qty := by
        have := HO2.out.2.2.1 L[k]! (by rw [getElem!_pos L k (by rw [HO2.out.1]; exact hlt)]; exact List.getElem_mem _)
        exact this.2.2.2.2.1
      have hqq := qs_get L k (by rw [HO2.out.1]; exact hlt)
      have hg := getD_ok HOK.out.q k
      have htr := trim_rng (lot := lot) HOK.out.l1 hg.1
      have haT : all ≤ sumT lot (qs L) := by rw [← HQ.out.1]; exact hab.2
      have h0T : 0 < sumT lot (qs L) := by rw [← HQ.out.1]; exact hT2.1
      have hp := p1_rng (mode := 1) (all := all) HOK.out.l1 HOK.out.q hab.1 haT h0T k (by rw [HQ.out.2.2]; exact hlt)
      have hf := lef2_rng (mode := 1) (all := all) HOK.out.l1 HOK.out.q hab.1 haT h0T k (by rw [HQ.out.2.2]; exact hk)
      rw [← HQ.out.1] at hp hf
      obtain ⟨lf, hlf⟩ : ∃ x, x = lef2 1 all T lot (qs L) k := ⟨_, rfl⟩
      obtain ⟨z, hz⟩ : ∃ x, x = p1 1 all T lot ((qs L).getD k 0) := ⟨_, rfl⟩
      obtain ⟨t, ht⟩ : ∃ x, x = trimN lot ((qs L).getD k 0) := ⟨_, rfl⟩
      obtain ⟨d, hd⟩ : ∃ x, x = min lf (t - z) := ⟨_, rfl⟩
      rw [← hlf] at hf
      rw [← hz, ← ht] at hp
      rw [← ht] at htr
      have kf : wr.cell? ⟨w2.heap.size + 1 + 1, 0, none⟩ = some (.int .i64 lf) := by rw [hlf]; exact HS.out.s.e.c0
      have HHd : Hid (Calls Try.prog 42 #[.int .i64 k, .int .i64 lf, .pointer (some ⟨w2.heap.size + 1 + 1, 0, none⟩), .pointer (some ⟨w.heap.size + 1, 0, none⟩), .pointer (some ⟨w.heap.size, 0, none⟩), .pointer (some ⟨w2.heap.size + 1, 0, none⟩)] wr (HandIs wr w2.heap.size (w2.heap.size + 1 + 1) k (z + d) (lf - d))) := Lib.hid (by
        rw [hlf]
        refine hand_c w.heap.size (w.heap.size + 1) (w2.heap.size + 1) (w2.heap.size + 2) w2.heap.size A n c L lot _ _ k _ d z t wr HS.out.s HO2.out hlt hn hlot ?_ hqi (by rw [← hqq]; exact ht) ⟨by omega, by omega⟩ (by omega) (by rw [← hlf]; omega) (by rw [← hlf]; omega) (by rw [← hlf]; omega) (by omega)
        show z = if k < k then _ else _
        rw [if_neg (by omega)]
        exact hz)
      have HN : Hid (∀ q, St2 w (((wr.drewN q).setCell ⟨w2.heap.size, k, none⟩ (.int .i64 (z + d))).setCell ⟨w2.heap.size + 1 + 1, 0, none⟩ (.int .i64 (lf - d))) w2.heap.size A n c lot 1 all T (qs L) (k + 1)) := Lib.hid (fun q => by
        rw [hlf]; exact HS.out.next q z d hz (by rw [← hlf, ← ht]; exact hd))
      clear HO2 hqi hqq hg htr haT h0T hp hf hlf hz ht hd HS
      go_wp2_with fail
      ((with_reducible refine HHd.out.mono ?_); rintro e w4 ⟨rfl, q, rfl⟩)
      have HM : Hid (St2 w (((wr.drewN q).setCell ⟨w2.heap.size, k, none⟩ (.int .i64 (z + d))).setCell ⟨w2.heap.size + 1 + 1, 0, none⟩ (.int .i64 (lf - d))) w2.heap.size A n c lot 1 all T (qs L) (k + 1)) := Lib.hid (HN.out q)
      clear HN HHd kf
      generalize (((wr.drewN q).setCell ⟨w2.heap.size, k, none⟩ (.int .i64 (z + d))).setCell ⟨w2.heap.size + 1 + 1, 0, none⟩ (.int .i64 (lf - d))) = w5 at HM ⊢
      go_wp2_with fail
      go_roundg (n - (k + 1))
      case measure => omega
      case rel => exact ⟨k + 1, by go_num, by omega, by omega, HM⟩
    · have hltI : ¬ (k : Int) < (n : Int) := by omega
      obtain rfl : k = n := by omega
      have kp := HS.out.s.p.c0
      have HE : Hid (Shd w k (outN 1 all T lot (qs L)) (.returned (.slice (some ⟨w2.heap.size, 0, none⟩) k k)) wr) := Lib.hid ⟨_, rfl, by have := HS.out.m; omega, HS.out.b, HS.out.s.a.congr (fun j hj => by
        show Value.int .i64 (if j < k then _ else _) = _
        rw [if_pos hj])⟩
      clear HS
      go_wp2_with fail
      go_ret
      exact HE.out

set_option maxHeartbeats 4000000 in
set_option maxRecDepth 100000 in
theorem share_2 (A : Option Addr) (n c : Nat) (L : List Od) (qty lot : Int) (hlot : InR lot) (w : World) (HO : Ods w A n L) (hn : n ≤ 1000) (hok : ShOk (qs L) qty lot) :
    Calls Try.prog 27 #[.int .i64 2, .slice A n c, .int .i64 qty, .int .i64 lot] w (Shd w n (outN 2 (allN lot qty (sumT lot (qs L))) (sumT lot (qs L)) lot (qs L))) := by
  have hql : (qs L).length = n := by rw [qs_len]; exact HO.1
  obtain ⟨T, hT⟩ : ∃ T, T = sumT lot (qs L) := ⟨_, rfl⟩
  obtain ⟨tq, htq⟩ : ∃ t, t = trimN lot qty := ⟨_, rfl⟩
  obtain ⟨all, hall⟩ : ∃ a, a = allN lot qty T := ⟨_, rfl⟩
  have HTot : Hid (∀ wr, Below w.heap.size w wr → Calls Try.prog 40 #[.slice A n c, .int .i64 lot] wr fun e w' => e = .returned (.int .i64 T) ∧ Below wr.heap.size wr w') := Lib.hid (by rw [hT, ← hok.t]; exact tot_on (wr := w) hlot HO hn)
  have hb0 : Below w.heap.size w ((w.alloc (.cells #[.slice A n c] 22)).alloc (.cells #[.int .i64 lot] 2)) := ((Below.refl _ _).alloc (Nat.le_refl _) _).alloc (by simp) _
  have hab := all_bd hok
  rw [← hT, ← hall] at hab
  have HTq : Hid (∀ w, Calls Try.prog 41 #[.int .i64 lot, .int .i64 qty] w fun e w' => e = .returned (.int .i64 tq) ∧ w = w') := Lib.hid (fun w => by rw [htq]; exact trim_c lot qty ⟨by have := hok.y1; omega, by have := hok.y2; omega⟩ hlot w)
  have eall : min tq T = all := by rw [hall, htq]; rfl
  have HOK : Hid (ShOk (qs L) qty lot) := Lib.hid hok
  have HQ : Hid (T = sumT lot (qs L) ∧ all = allN lot qty T ∧ (qs L).length = n) := Lib.hid ⟨hT, hall, hql⟩
  have h64 : n ≤ 64 := by have := hok.n; omega
  have hz1 : (T == 0) = false := by have := hok.t1; simp; omega
  have hz2 : decide (qty < 1) = false := decide_eq_false (by have := hok.y1; omega)
  have hz3 : decide (4611686018427387904 < qty) = false := decide_eq_false (by have := hok.y2; omega)
  have hT2 : 0 < T ∧ T ≤ 70368744177664 := by rw [hT]; exact ⟨hok.t1, hok.t2⟩
  have HOd : Aside (Ods w A n L) := HO
  rw [← hT, ← hall]
  clear hT htq hall hql hok HO
  have hmk := run_make_row' (P := Try.prog) 31 2 (.int .i64 0) 8 Try.underlying31 info_i64 rfl .i64 .i64 n (by omega) (by omega)
  go_enter Try.func27, Try.ntmps27
  go_wp2_with fail
  ((with_reducible refine (HTot.out _ hb0).mono ?_); rintro e w2 ⟨rfl, b2⟩)
  have hs1 := b2.size
  simp only [World.size_alloc] at hs1
  have k0 : w2.cell? ⟨w.heap.size, 0, none⟩ = some (.slice A n c) := by
    have h : Bx 22 w2 w.heap.size (.slice A n c) := (b2.block _ (by simp; omega)).trans (heap_prev (by simp) (heap_last rfl))
    exact h.c0
  have k1 : w2.cell? ⟨w.heap.size + 1, 0, none⟩ = some (.int .i64 lot) := by
    have h : Bx 2 w2 (w.heap.size + 1) (.int .i64 lot) := (b2.block _ (by simp)).trans (heap_last (by simp))
    exact h.c0
  have HS0 : Hid (St1 w (((w2.alloc (.cells (madeCells #[.int .i64 0] n) 2)).alloc (.cells #[.slice (some ⟨w2.heap.size, 0, none⟩) n n] 31)).alloc (.cells #[.int .i64 all] 2)) w2.heap.size A n c lot 2 all T (qs L) 0) := Lib.hid (st1_new w w2 A n c lot 2 all T (qs L) (b2.mono (by simp)))
  have j0 := HS0.out.s.l.c0
  have j1 := HS0.out.s.t.c0
  clear b2 hb0 HTot
  go_wp2_with ((with_reducible refine (HTq.out _).mono ?_); rintro e w' ⟨rfl, rfl⟩)
  clear HTq
  have HS0a := HS0
  clear HS0
  go_loopg [53] n (fun kx s53 wr => ∃ k : Nat, s53 = .int .i64 k ∧ k ≤ n ∧ n - k ≤ kx ∧ Hid (St1 w wr w2.heap.size A n c lot 2 all T (qs L) k))
  case atStart => exact ⟨0, rfl, by omega, by omega, HS0a⟩
  case round =>
    clear HS0a j0 j1 k0 k1
    obtain ⟨k, rfl, hk, hkx, HS⟩ := hrel
    by_cases hlt : k < n
    · have hltI : (k : Int) < (n : Int) := by omega
      have hk0 : (0 : Int) ≤ (k : Int) := by omega
      have HO2 : Aside (Ods wr A n L) := HOd.out.below HS.out.b
      obtain ⟨b, off, rfl, hb, hc⟩ : ∃ b off, A = some ⟨b, off, none⟩ ∧ b < wr.heap.size ∧ ∀ i, i < n → (L[i]!).at wr b (off + i * 6) := by
        rcases HO2.out.2.2.2 with h | h
        · omega
        · exact h
      have kq := (hc k hlt).2.2.2.2.1
      have kl := HS.out.s.l.c0
      have kt := HS.out.s.t.c0
      have hqi : InR L[k]!.qty := by
        have := HO2.out.2.2.1 L[k]! (by rw [getElem!_pos L k (by rw [HO2.out.1]; exact hlt)]; exact List.getElem_mem _)
        exact this.2.2.2.2.1
      have hqq := qs_get L k (by rw [HO2.out.1]; exact hlt)
      obtain ⟨q, eq⟩ : ∃ q, q = L[k]!.qty := ⟨_, rfl⟩
      rw [← eq] at kq hqi hqq
      have hg := getD_ok HOK.out.q k
      rw [hqq] at hg
      obtain ⟨tt, ht⟩ : ∃ t, t = trimN lot q := ⟨_, rfl⟩
      have htr := trim_rng (lot := lot) HOK.out.l1 hg.1
      rw [← ht] at htr
      have hts := trim_le_sum HOK.out.l1 HOK.out.q k (by rw [HQ.out.2.2]; exact hlt)
      rw [hqq, ← ht, ← HQ.out.1] at hts
      have hdv := dv_part (a := all) (t := tt) (T := T) hab.1 htr.1 hT2.1 hts (by omega)
      obtain ⟨pd, hpd⟩ : ∃ p, p = all * tt / T := ⟨_, rfl⟩
      rw [← hpd] at hdv
      obtain ⟨hdv1, hdv2, hdv3, hdv4⟩ := hdv
      obtain ⟨pp, hpp⟩ : ∃ p, p = p1 2 all T lot ((qs L).getD k 0) := ⟨_, rfl⟩
      have hpe : pp = trimN lot pd := by rw [hpp, hqq, hpd, ht]; rfl
      have hf := p1_fits (mode := 2) (all := all) HOK.out.l1 HOK.out.q hab.1 (by rw [← HQ.out.1]; exact hab.2) (by rw [← HQ.out.1]; exact hT2.1) k (by rw [HQ.out.2.2]; exact hk)
      rw [← HQ.out.1] at hf
      obtain ⟨⟨f1, f2, _⟩, f3⟩ := hf
      obtain ⟨f4, f5, f6, _⟩ := f3 (by rw [HQ.out.2.2]; exact hlt)
      rw [← hpp] at f4 f5 f6
      rw [hqq, ← ht] at f6
      clear f3
      obtain ⟨lf, hlf⟩ : ∃ x, x = lef1 2 all T lot (qs L) k := ⟨_, rfl⟩
      rw [← hlf] at f1 f2 f5
      have HTr : Hid (∀ w, Calls Try.prog 41 #[.int .i64 lot, .int .i64 q] w fun e w' => e = .returned (.int .i64 tt) ∧ w = w') := Lib.hid (fun w => by rw [ht]; exact trim_c lot q hqi hlot w)
      have HTr2 : Hid (∀ w, Calls Try.prog 41 #[.int .i64 lot, .int .i64 pd] w fun e w' => e = .returned (.int .i64 pp) ∧ w = w') := Lib.hid (fun w => by rw [hpe]; exact trim_c lot pd ⟨by omega, by omega⟩ hlot w)
      have HDv : Hid (∀ w, Calls Try.prog 43 #[.int .i64 all, .int .i64 tt, .int .i64 T, .int .i64 1] w fun e w' => e = .returned (.tuple #[.int .i64 pd, .int .i64 0]) ∧ Below w.heap.size w w') := Lib.hid (fun w => by
        have h := Div_any all tt T 1 ⟨by omega, by omega⟩ ⟨by omega, by omega⟩ ⟨by omega, by omega⟩ w
        rw [hdv1, hdv2] at h
        exact h)
      have HHd : Hid (∀ w3, Below wr.heap.size wr w3 → Calls Try.prog 42 #[.int .i64 k, .int .i64 pp, .pointer (some ⟨w2.heap.size + 1 + 1, 0, none⟩), .pointer (some ⟨w.heap.size + 1, 0, none⟩), .pointer (some ⟨w.heap.size, 0, none⟩), .pointer (some ⟨w2.heap.size + 1, 0, none⟩)] w3 (HandIs w3 w2.heap.size (w2.heap.size + 1 + 1) k (0 + pp) (lf - pp))) := Lib.hid (fun w3 h3 => by
        rw [hlf]
        refine hand_c w.heap.size (w.heap.size + 1) (w2.heap.size + 1) (w2.heap.size + 2) w2.heap.size _ n c L lot _ _ k pp pp 0 tt w3 (HS.out.s.below h3) (HO2.out.below h3) hlt hn hlot ?_ (by rw [← eq]; exact hqi) (by rw [← eq]; exact ht) ⟨by omega, by omega⟩ (by omega) (by rw [← hlf]; omega) ⟨by omega, by omega⟩ (by rw [← hlf]; omega) (by omega)
        show 0 = if k < k then _ else 0
        rw [if_neg (by omega)])
      have HN : Hid (∀ w3, Below wr.heap.size wr w3 → ∀ q, St1 w (((w3.drewN q).setCell ⟨w2.heap.size, k, none⟩ (.int .i64 (0 + pp))).setCell ⟨w2.heap.size + 1 + 1, 0, none⟩ (.int .i64 (lf - pp))) w2.heap.size (some ⟨b, off, none⟩) n c lot 2 all T (qs L) (k + 1)) := Lib.hid (fun w3 h3 q => by
        rw [hlf]; exact HS.out.next h3 q pp hpp)
      clear hc hqi hqq eq hg ht htr hts hpd hdv1 hdv2 hpp hpe f1 f2 f4 f5 f6 hlf HO2 HS
      have bd : Below wr.heap.size wr wr.drew := ⟨rfl, rfl, rfl, Nat.le_refl _, fun _ _ => rfl⟩
      go_wp2_with fail
      go_region_held3 (fun w' => Below wr.heap.size wr w' ∧ w'.cell? ⟨w.heap.size, 0, none⟩ = some (.slice (some ⟨b, off, none⟩) n c) ∧ w'.cell? ⟨w.heap.size + 1, 0, none⟩ = some (.int .i64 lot) ∧ w'.cell? ⟨b, off + k * 6 + 4, none⟩ = some (.int .i64 q)) (first | exact ⟨bd, kl, kt, kq⟩ | (refine keep3 b3 ?_; first | (with_reducible assumption) | (refine ⟨?_, ?_, ?_, ?_⟩ <;> (with_reducible assumption)))) (first | ((with_reducible refine (HTr.out _).mono ?_); rintro e w' ⟨rfl, rfl⟩) | ((with_reducible refine (HDv.out _).mono ?_); rintro e w3 ⟨rfl, b3⟩) | fail)
      have g0 : Below wr.heap.size wr w3 := by (first | assumption | exact (by assumption : Below wr.heap.size wr w3 ∧ _).1)
      go_wp2_with ((with_reducible refine (HTr2.out _).mono ?_); rintro e w' ⟨rfl, rfl⟩)
      ((with_reducible refine (HHd.out _ g0).mono ?_); rintro e w4 ⟨rfl, q2, rfl⟩)
      have HM : Hid (St1 w (((w3.drewN q2).setCell ⟨w2.heap.size, k, none⟩ (.int .i64 (0 + pp))).setCell ⟨w2.heap.size + 1 + 1, 0, none⟩ (.int .i64 (lf - pp))) w2.heap.size (some ⟨b, off, none⟩) n c lot 2 all T (qs L) (k + 1)) := Lib.hid (HN.out _ g0 q2)
      clear HN HHd g0
      generalize (((w3.drewN q2).setCell ⟨w2.heap.size, k, none⟩ (.int .i64 (0 + pp))).setCell ⟨w2.heap.size + 1 + 1, 0, none⟩ (.int .i64 (lf - pp))) = w5 at HM ⊢
      go_wp2_with fail
      go_roundg (n - (k + 1))
      case measure => omega
      case rel => exact ⟨k + 1, by go_num, by omega, by omega, HM⟩
    · have hltI : ¬ (k : Int) < (n : Int) := by omega
      have ekn : k = n := by omega
      have HS2 : Hid (St2 w wr w2.heap.size A n c lot 2 all T (qs L) 0) := Lib.hid ((ekn ▸ HS.out : St1 w wr w2.heap.size A n c lot 2 all T (qs L) n).st2 HQ.out.2.2)
      have j0 := HS2.out.s.l.c0
      clear HS hlt ekn
      go_wp2_with fail
      go_loopg [78] n (fun kx s78 wr => ∃ k : Nat, s78 = .int .i64 k ∧ k ≤ n ∧ n - k ≤ kx ∧ Hid (St2 w wr w2.heap.size A n c lot 2 all T (qs L) k))
      case atStart => exact ⟨0, rfl, by omega, by omega, HS2⟩
      case round =>
        clear HS2 j0
        obtain ⟨k, rfl, hk, hkx, HS⟩ := hrel
        by_cases hlt : k < n
        · have hltI : (k : Int) < (n : Int) := by omega
          have hk0 : (0 : Int) ≤ (k : Int) := by omega
          have HO2 : Aside (Ods wr A n L) := HOd.out.below HS.out.b
          have hqi : InR L[k]!.qty := by
            have := HO2.out.2.2.1 L[k]! (by rw [getElem!_pos L k (by rw [HO2.out.1]; exact hlt)]; exact List.getElem_mem _)
            exact this.2.2.2.2.1
          have hqq := qs_get L k (by rw [HO2.out.1]; exact hlt)
          have hg := getD_ok HOK.out.q k
          have htr := trim_rng (lot := lot) HOK.out.l1 hg.1
          have haT : all ≤ sumT lot (qs L) := by rw [← HQ.out.1]; exact hab.2
          have h0T : 0 < sumT lot (qs L) := by rw [← HQ.out.1]; exact hT2.1
          have hp := p1_rng (mode := 2) (all := all) HOK.out.l1 HOK.out.q hab.1 haT h0T k (by rw [HQ.out.2.2]; exact hlt)
          have hf := lef2_rng (mode := 2) (all := all) HOK.out.l1 HOK.out.q hab.1 haT h0T k (by rw [HQ.out.2.2]; exact hk)
          rw [← HQ.out.1] at hp hf
          obtain ⟨lf, hlf⟩ : ∃ x, x = lef2 2 all T lot (qs L) k := ⟨_, rfl⟩
          obtain ⟨z, hz⟩ : ∃ x, x = p1 2 all T lot ((qs L).getD k 0) := ⟨_, rfl⟩
          obtain ⟨t, ht⟩ : ∃ x, x = trimN lot ((qs L).getD k 0) := ⟨_, rfl⟩
          obtain ⟨d, hd⟩ : ∃ x, x = min lf (t - z) := ⟨_, rfl⟩
          rw [← hlf] at hf
          rw [← hz, ← ht] at hp
          rw [← ht] at htr
          have kf : wr.cell? ⟨w2.heap.size + 1 + 1, 0, none⟩ = some (.int .i64 lf) := by rw [hlf]; exact HS.out.s.e.c0
          have HHd : Hid (Calls Try.prog 42 #[.int .i64 k, .int .i64 lf, .pointer (some ⟨w2.heap.size + 1 + 1, 0, none⟩), .pointer (some ⟨w.heap.size + 1, 0, none⟩), .pointer (some ⟨w.heap.size, 0, none⟩), .pointer (some ⟨w2.heap.size + 1, 0, none⟩)] wr (HandIs wr w2.heap.size (w2.heap.size + 1 + 1) k (z + d) (lf - d))) := Lib.hid (by
            rw [hlf]
            refine hand_c w.heap.size (w.heap.size + 1) (w2.heap.size + 1) (w2.heap.size + 2) w2.heap.size A n c L lot _ _ k _ d z t wr HS.out.s HO2.out hlt hn hlot ?_ hqi (by rw [← hqq]; exact ht) ⟨by omega, by omega⟩ (by omega) (by rw [← hlf]; omega) (by rw [← hlf]; omega) (by rw [← hlf]; omega) (by omega)
            show z = if k < k then _ else _
            rw [if_neg (by omega)]
            exact hz)
          have HN : Hid (∀ q, St2 w (((wr.drewN q).setCell ⟨w2.heap.size, k, none⟩ (.int .i64 (z + d))).setCell ⟨w2.heap.size + 1 + 1, 0, none⟩ (.int .i64 (lf - d))) w2.heap.size A n c lot 2 all T (qs L) (k + 1)) := Lib.hid (fun q => by
            rw [hlf]; exact HS.out.next q z d hz (by rw [← hlf, ← ht]; exact hd))
          clear HO2 hqi hqq hg htr haT h0T hp hf hlf hz ht hd HS
          go_wp2_with fail
          ((with_reducible refine HHd.out.mono ?_); rintro e w4 ⟨rfl, q, rfl⟩)
          have HM : Hid (St2 w (((wr.drewN q).setCell ⟨w2.heap.size, k, none⟩ (.int .i64 (z + d))).setCell ⟨w2.heap.size + 1 + 1, 0, none⟩ (.int .i64 (lf - d))) w2.heap.size A n c lot 2 all T (qs L) (k + 1)) := Lib.hid (HN.out q)
          clear HN HHd kf
          generalize (((wr.drewN q).setCell ⟨w2.heap.size, k, none⟩ (.int .i64 (z + d))).setCell ⟨w2.heap.size + 1 + 1, 0, none⟩ (.int .i64 (lf - d))) = w5 at HM ⊢
          go_wp2_with fail
          go_roundg (n - (k + 1))
          case measure => omega
          case rel => exact ⟨k + 1, by go_num, by omega, by omega, HM⟩
        · have hltI : ¬ (k : Int) < (n : Int) := by omega
          obtain rfl : k = n := by omega
          have kp := HS.out.s.p.c0
          have HE : Hid (Shd w k (outN 2 all T lot (qs L)) (.returned (.slice (some ⟨w2.heap.size, 0, none⟩) k k)) wr) := Lib.hid ⟨_, rfl, by have := HS.out.m; omega, HS.out.b, HS.out.s.a.congr (fun j hj => by
            show Value.int .i64 (if j < k then _ else _) = _
            rw [if_pos hj])⟩
          clear HS
          go_wp2_with fail
          go_ret
          exact HE.out

end Go.Proofs.Ytdjbnnjcifgnlaa

namespace Go.Proofs.Ytdjbnnjcifgnlaa
open Go.RowKit Go.Lib
set_option linter.unusedVariables false

/-- A row of numbers, as the walk reads it. -/
def RowN (w : World) (A : Option Addr) (n : Nat) (g : Nat → Int) : Prop := n = 0 ∨ ∃ b, A = some ⟨b, 0, none⟩ ∧ b < w.heap.size ∧ ∀ i, i < n → w.cell? ⟨b, i, none⟩ = some (.int .i64 (g i))
theorem RowN.below {w w' : World} {A : Option Addr} {n : Nat} {g : Nat → Int} (h : RowN w A n g) (hb : Below w.heap.size w w') : RowN w' A n g := by
  rcases h with h | ⟨b, rfl, hl, hc⟩
  · exact .inl h
  · exact .inr ⟨b, rfl, Nat.lt_of_lt_of_le hl hb.size, fun i hi => (hb.cell (p := ⟨b, i, none⟩) hl).trans (hc i hi)⟩
theorem RowN.of {w : World} {b n : Nat} {g : Nat → Int} (h : w.rowIs b 2 n (fun i => .int .i64 (g i))) : RowN w (some ⟨b, 0, none⟩) n g :=
  .inr ⟨b, rfl, h.lt, fun i hi => h.cell hi⟩

set_option maxHeartbeats 4000000 in
set_option maxRecDepth 100000 in
theorem same16_c (A B : Option Addr) (n c c' : Nat) (f g : Nat → Int) (w : World) (H : RowN w A n f) (K : RowN w B n g) (hn : n ≤ 1000) (hfg : ∀ i, i < n → f i = g i) :
    Calls Try.prog 11 #[.slice A n c, .slice B n c'] w fun e w' => e = .returned (.bool true) ∧ Below w.heap.size w w' := by
  have HA : Aside (RowN w A n f) := H
  have HB : Aside (RowN w B n g) := K
  have HF := Lib.hid hfg
  have enn : ((n : Int) == (n : Int)) = true := by simp
  have enn2 : ((n : Int) != (n : Int)) = false := by simp
  clear H K hfg
  go_enter Try.func11, Try.ntmps11
  go_wp2_with fail
  go_loopg [13] n (fun kx s13 wr => ∃ k : Nat, s13 = .int .i64 k ∧ k ≤ n ∧ n - k ≤ kx ∧ Hid (Below w.heap.size w wr))
  case atStart => exact ⟨0, rfl, by omega, by omega, Lib.hid (Below.refl _ _)⟩
  case round =>
    obtain ⟨k, rfl, hk, hkx, hB⟩ := hrel
    by_cases hlt : k < n
    · have hltI : (k : Int) < (n : Int) := by omega
      have hk0 : (0 : Int) ≤ (k : Int) := by omega
      obtain ⟨b, rfl, _, hcb⟩ : ∃ b, A = some ⟨b, 0, none⟩ ∧ b < wr.heap.size ∧ ∀ i, i < n → wr.cell? ⟨b, i, none⟩ = some (.int .i64 (f i)) := by
        rcases HA.out.below hB.out with h | h
        · omega
        · exact h
      obtain ⟨b', rfl, _, hcb'⟩ : ∃ b, B = some ⟨b, 0, none⟩ ∧ b < wr.heap.size ∧ ∀ i, i < n → wr.cell? ⟨b, i, none⟩ = some (.int .i64 (g i)) := by
        rcases HB.out.below hB.out with h | h
        · omega
        · exact h
      have c1 := hcb k hlt
      have c2 := hcb' k hlt
      rw [← HF.out k hlt] at c2
      clear hcb hcb'
      generalize f k = z at c1 c2
      have ez : (z == z) = true := by simp
      have ez2 : (z != z) = false := by simp
      go_wp2_with fail
      go_quiet (fail)
      have hN : Hid (Below w.heap.size w (wr.drewN nq)) := Lib.hid (below_drewN hB.out nq)
      go_wp2_with fail
      go_roundg (n - (k + 1))
      case measure => omega
      case rel => exact ⟨k + 1, by go_num, by omega, by omega, hN⟩
    · have hltI : ¬ (k : Int) < (n : Int) := by omega
      go_wp2_with fail
      go_ret
      exact ⟨rfl, hB.out⟩

theorem Shd.row {w w' : World} {n : Nat} {g : Nat → Int} {e : Ending} (h : Shd w n g e w') : ∃ b, e = .returned (.slice (some ⟨b, 0, none⟩) n n) ∧ w.heap.size ≤ b ∧ Hid (Below w.heap.size w w' ∧ RowN w' (some ⟨b, 0, none⟩) n g) := by
  obtain ⟨b, h1, h2, h3, h4⟩ := h
  exact ⟨b, h1, h2, Lib.hid ⟨h3, RowN.of h4⟩⟩
end Go.Proofs.Ytdjbnnjcifgnlaa

namespace Go.Proofs.Ytdjbnnjcifgnlaa
set_option linter.unusedVariables false

/-- Are two of one side, and of one price? -/
def smO (x y : Od) : Bool := (x.side == y.side) && (x.price == y.price)
theorem smO_iff {x y : Od} : smO x y = true ↔ x.side = y.side ∧ x.price = y.price := by unfold smO; simp
def rr (x : Od) : List Od → Nat
  | [] => 0
  | y :: l => if smO y x = true then rr x l + 1 else 0
/-- How many stand in front, of one side and one price with the first one. -/
def rlN : List Od → Nat
  | [] => 0
  | x :: l => rr x l + 1
theorem rr_le (x : Od) : ∀ l, rr x l ≤ l.length
  | [] => Nat.le_refl _
  | y :: l => by
    have := rr_le x l
    simp only [rr, List.length_cons]
    split <;> omega
theorem rr_spec (x : Od) : ∀ l : List Od, (∀ j, j < rr x l → smO l[j]! x = true) ∧ (rr x l < l.length → smO l[rr x l]! x = false)
  | [] => ⟨fun j hj => absurd hj (Nat.not_lt_zero _), fun h => absurd h (Nat.not_lt_zero _)⟩
  | y :: l => by
    have ih := rr_spec x l
    by_cases c : smO y x = true
    · have e : rr x (y :: l) = rr x l + 1 := by simp only [rr, if_pos c]
      rw [e]
      refine ⟨fun j hj => ?_, fun h => ?_⟩
      · cases j with
        | zero => exact c
        | succ j => exact ih.1 j (by omega)
      · exact ih.2 (by simpa using h)
    · have e : rr x (y :: l) = 0 := by simp only [rr, if_neg c]
      rw [e]
      exact ⟨fun j hj => absurd hj (Nat.not_lt_zero _), fun _ => by simpa using c⟩
theorem rlN_le (M : List Od) : rlN M ≤ M.length := by
  cases M with
  | nil => exact Nat.le_refl _
  | cons x l => have := rr_le x l; simp only [rlN, List.length_cons]; omega
theorem rlN_pos {M : List Od} (h : 0 < M.length) : 1 ≤ rlN M := by
  cases M with
  | nil => exact absurd h (Nat.lt_irrefl _)
  | cons x l => simp only [rlN]; omega
theorem smO_refl (x : Od) : smO x x = true := smO_iff.2 ⟨rfl, rfl⟩
theorem rlN_spec {M : List Od} (h : 0 < M.length) : (∀ j, j < rlN M → smO M[j]! M[0]! = true) ∧ (rlN M < M.length → smO M[rlN M]! M[0]! = false) := by
  cases M with
  | nil => exact absurd h (Nat.lt_irrefl _)
  | cons x l =>
    have hs := rr_spec x l
    refine ⟨fun j hj => ?_, fun h => hs.2 (by simp only [rlN, List.length_cons] at h; omega)⟩
    cases j with
    | zero => exact smO_refl x
    | succ j => exact hs.1 j (by simp only [rlN] at hj; omega)
theorem rlN_eq {M : List Od} {r : Nat} (h1 : 1 ≤ r) (h2 : r ≤ M.length) (h3 : ∀ j, j < r → smO M[j]! M[0]! = true) (h4 : r < M.length → smO M[r]! M[0]! = false) : rlN M = r := by
  have hs := rlN_spec (M := M) (by omega)
  have hl := rlN_le M
  rcases Nat.lt_trichotomy (rlN M) r with h | h | h
  · have := hs.2 (by omega); rw [h3 _ h] at this; cases this
  · exact h
  · have := h4 (by omega); rw [hs.1 _ h] at this; cases this
theorem drop_bang (L : List Od) (i j : Nat) : (L.drop i)[j]! = L[i + j]! := by
  rw [List.getElem!_eq_getElem?_getD, List.getElem!_eq_getElem?_getD, List.getElem?_drop]
/-- How many follow one another from i on. -/
def rlA (L : List Od) (i : Nat) : Nat := rlN (L.drop i)
theorem rlA_le (L : List Od) {i : Nat} (h : i < L.length) : 1 ≤ rlA L i ∧ i + rlA L i ≤ L.length := by
  have h1 := rlN_pos (M := L.drop i) (by rw [List.length_drop]; omega)
  have h2 := rlN_le (L.drop i)
  rw [List.length_drop] at h2
  unfold rlA; omega
theorem rlA_spec {L : List Od} {i : Nat} (h : i < L.length) : (∀ j, j < rlA L i → smO L[i + j]! L[i]! = true) ∧ (i + rlA L i < L.length → smO L[i + rlA L i]! L[i]! = false) := by
  have hs := rlN_spec (M := L.drop i) (by rw [List.length_drop]; omega)
  refine ⟨fun j hj => ?_, fun hl => ?_⟩
  · have := hs.1 j hj; rw [drop_bang, drop_bang] at this; exact this
  · have := hs.2 (by rw [List.length_drop]; unfold rlA at hl; omega); rw [drop_bang, drop_bang] at this; exact this
theorem rlA_eq {L : List Od} {i r : Nat} (h1 : 1 ≤ r) (h2 : i + r ≤ L.length) (h3 : ∀ j, j < r → smO L[i + j]! L[i]! = true) (h4 : i + r < L.length → smO L[i + r]! L[i]! = false) : rlA L i = r :=
  rlN_eq h1 (by rw [List.length_drop]; omega) (fun j hj => by rw [drop_bang, drop_bang]; exact h3 j hj) (fun hl => by rw [drop_bang, drop_bang]; exact h4 (by rw [List.length_drop] at hl; omega))
/-- Does a run of a side that wants the price begin at i? -/
def stO (L : List Od) (s p : Int) (i : Nat) : Bool := ((L[i]!).side == s) && wnO L[i]! p && !(decide (0 < i) && (((L[i - 1]!).side == s) && ((L[i - 1]!).price == (L[i]!).price)))
def Qat (L : List Od) (i : Nat) : List Int := qs ((L.drop i).take (rlA L i))
theorem Qat_len {L : List Od} {i : Nat} (h : i < L.length) : (Qat L i).length = rlA L i := by
  have := rlA_le L h
  unfold Qat qs
  rw [List.length_map, List.length_take, List.length_drop]; omega
/-- What one run gets of v. -/
def ovr (f : Nat → Int) (i m : Nat) (g : Nat → Int) : Nat → Int := fun k => if i ≤ k ∧ k < i + m then g (k - i) else f k
theorem ovr_zero (f : Nat → Int) (i : Nat) (g : Nat → Int) : ovr f i 0 g = f := by
  funext k; unfold ovr; rw [if_neg (by omega)]
def gtN (mode lot v : Int) (Q : List Int) : Nat → Int := outN mode (allN lot v (sumT lot Q)) (sumT lot Q) lot Q
def gtS (mode lot v : Int) (Q : List Int) : Nat → Int := outS mode (allN lot v (sumT lot Q)) (sumT lot Q) lot Q
abbrev Sta := (Nat → Int) × Int
open Classical in
noncomputable def stp (L : List Od) (s p mode lot : Int) (i : Nat) (S : Sta) : Sta :=
  if stO L s p i = true ∧ ¬ NoSh mode (Qat L i) S.2 lot then (ovr S.1 i (rlA L i) (gtN mode lot S.2 (Qat L i)), S.2 - allN lot S.2 (sumT lot (Qat L i))) else S
noncomputable def sdT (L : List Od) (s p mode lot v : Int) : Nat → Sta
  | 0 => (fun _ => 0, v)
  | k + 1 => stp L s p mode lot k (sdT L s p mode lot v k)
theorem stp_no {L : List Od} {s p mode lot : Int} {i : Nat} {S : Sta} (h : stO L s p i = false) : stp L s p mode lot i S = S := by
  unfold stp; rw [if_neg]; rintro ⟨h1, _⟩; rw [h] at h1; cases h1
theorem stp_none {L : List Od} {s p mode lot : Int} {i : Nat} {S : Sta} (h : NoSh mode (Qat L i) S.2 lot) : stp L s p mode lot i S = S := by
  unfold stp; rw [if_neg]; rintro ⟨_, h1⟩; exact h1 h
theorem stp_yes {L : List Od} {s p mode lot : Int} {i : Nat} {S : Sta} (h : stO L s p i = true) (h1 : ¬ NoSh mode (Qat L i) S.2 lot) : stp L s p mode lot i S = (ovr S.1 i (rlA L i) (gtN mode lot S.2 (Qat L i)), S.2 - allN lot S.2 (sumT lot (Qat L i))) := by
  unfold stp; rw [if_pos ⟨h, h1⟩]
/-- Does somebody else stand ahead of i? -/
def Bnd (L : List Od) (i : Nat) : Prop := i = 0 ∨ smO L[i]! L[i - 1]! = false
theorem stO_skip {L : List Od} {s p : Int} {i : Nat} (h0 : 0 < i) (h : smO L[i]! L[i - 1]! = true) : stO L s p i = false := by
  obtain ⟨a, b⟩ := smO_iff.1 h
  unfold stO
  generalize L[i]! = x at *
  generalize L[i - 1]! = y at *
  by_cases c : x.side = s
  · rw [← a, ← b]; simp [h0, c]
  · simp [c]
theorem stO_bnd {L : List Od} {s p : Int} {i : Nat} (h : Bnd L i) : stO L s p i = (((L[i]!).side == s) && wnO L[i]! p) := by
  unfold stO
  rcases h with rfl | h
  · simp
  · generalize L[i]! = x at *
    generalize L[i - 1]! = y at *
    by_cases c : x.side = s
    · by_cases d : (y.side == s) && (y.price == x.price)
      · exfalso
        simp only [Bool.and_eq_true, beq_iff_eq] at d
        have : smO x y = true := smO_iff.2 ⟨by rw [c, d.1], d.2.symm⟩
        rw [this] at h; cases h
      · rw [Bool.not_eq_true] at d
        rw [d]; simp
    · simp [c]
theorem Bnd.next {L : List Od} {i : Nat} (h : i < L.length) (h2 : i + rlA L i < L.length) : Bnd L (i + rlA L i) := by
  have hs := rlA_spec h
  have hp := rlA_le L h
  right
  have h1 := hs.1 (rlA L i - 1) (by omega)
  rw [show i + (rlA L i - 1) = i + rlA L i - 1 by omega] at h1
  have h3 := hs.2 h2
  obtain ⟨a, b⟩ := smO_iff.1 h1
  cases e : smO L[i + rlA L i]! L[i + rlA L i - 1]! with
  | false => rfl
  | true =>
    obtain ⟨c, d⟩ := smO_iff.1 e
    have : smO L[i + rlA L i]! L[i]! = true := smO_iff.2 ⟨c.trans a, d.trans b⟩
    rw [this] at h3; cases h3
/-- A run's later ones turn nothing. -/
theorem sdT_skip {L : List Od} {s p mode lot v : Int} {i : Nat} (h : i < L.length) : sdT L s p mode lot v (i + rlA L i) = stp L s p mode lot i (sdT L s p mode lot v i) := by
  have hs := rlA_spec h
  have hp := rlA_le L h
  have : ∀ j, j < rlA L i → sdT L s p mode lot v (i + (j + 1)) = stp L s p mode lot i (sdT L s p mode lot v i) := by
    intro j hj
    induction j with
    | zero => rfl
    | succ j ih =>
      have e1 := ih (by omega)
      show stp L s p mode lot (i + (j + 1)) (sdT L s p mode lot v (i + (j + 1))) = _
      rw [stp_no, e1]
      refine stO_skip (by omega) ?_
      obtain ⟨a, b⟩ := smO_iff.1 (hs.1 (j + 1) hj)
      obtain ⟨c, d⟩ := smO_iff.1 (hs.1 j (by omega))
      rw [show i + (j + 1) - 1 = i + j by omega]
      exact smO_iff.2 ⟨a.trans c.symm, b.trans d.symm⟩
  have e := this (rlA L i - 1) (by omega)
  rw [show rlA L i - 1 + 1 = rlA L i by omega] at e
  exact e
theorem Qat_sub {L : List Od} {i j : Nat} (h : i < L.length) (hj : j < rlA L i) : (Qat L i).getD j 0 = (L[i + j]!).qty := by
  have hp := rlA_le L h
  have hl : i + j < L.length := by omega
  unfold Qat qs
  rw [List.getD_eq_getElem?_getD, List.getElem?_map, List.getElem?_take, if_pos hj, List.getElem?_drop, List.getElem?_eq_getElem hl, getElem!_pos L (i + j) hl]
  rfl
theorem all_rng {mode lot v : Int} {Q : List Int} (h : ShOk Q v lot) : 0 ≤ allN lot v (sumT lot Q) ∧ allN lot v (sumT lot Q) ≤ v ∧ allN lot v (sumT lot Q) ≤ sumT lot Q := by
  have h1 := trim_rng h.l1 (show 0 ≤ v by have := h.y1; omega)
  have h2 := h.t1
  unfold allN; omega
theorem gt_rng {mode lot v : Int} {Q : List Int} (h : ShOk Q v lot) {k : Nat} (hk : k < Q.length) : 0 ≤ gtN mode lot v Q k ∧ gtN mode lot v Q k ≤ Q.getD k 0 := by
  have ha := all_rng (mode := mode) h
  have h1 := outN_rng (mode := mode) h.l1 h.q ha.1 ha.2.2 h.t1 k hk
  have h2 := trim_rng h.l1 (getD_ok h.q k).1
  unfold gtN; omega
theorem gtS_all {mode lot v : Int} {Q : List Int} (h : ShOk Q v lot) : gtS mode lot v Q Q.length = allN lot v (sumT lot Q) := by
  have ha := all_rng (mode := mode) h
  exact outS_all (mode := mode) h.l1 h.q ha.1 ha.2.2 h.t1
theorem gtS_rng {mode lot v : Int} {Q : List Int} (h : ShOk Q v lot) {k : Nat} (hk : k ≤ Q.length) : 0 ≤ gtS mode lot v Q k ∧ gtS mode lot v Q k ≤ allN lot v (sumT lot Q) := by
  have ha := all_rng (mode := mode) h
  have h1 := outS_rng (mode := mode) h.l1 h.q ha.1 ha.2.2 h.t1 k hk
  refine ⟨h1.1, ?_⟩
  have mono : ∀ m, k + m ≤ Q.length → gtS mode lot v Q k ≤ gtS mode lot v Q (k + m) := by
    intro m hm
    induction m with
    | zero => exact Int.le_refl _
    | succ m ih =>
      have := ih (by omega)
      have hg := gt_rng (mode := mode) h (k := k + m) (by omega)
      have e : gtS mode lot v Q (k + (m + 1)) = gtS mode lot v Q (k + m) + gtN mode lot v Q (k + m) := rfl
      omega
  have := mono (Q.length - k) (by omega)
  rw [show k + (Q.length - k) = Q.length by omega, gtS_all h] at this
  exact this
/-- What is there of the volume; what each one has. -/
theorem sdT_rng {L : List Od} {s p mode lot v : Int} (hv : 0 ≤ v) : ∀ k, k ≤ L.length → (0 ≤ (sdT L s p mode lot v k).2 ∧ (sdT L s p mode lot v k).2 ≤ v) ∧ ∀ j, 0 ≤ (sdT L s p mode lot v k).1 j ∧ ((sdT L s p mode lot v k).1 j ≤ 0 ∨ (j < L.length ∧ (sdT L s p mode lot v k).1 j ≤ (L[j]!).qty ∧ (L[j]!).side = s ∧ wnO L[j]! p = true))
  | 0, _ => ⟨⟨hv, Int.le_refl _⟩, fun j => ⟨Int.le_refl _, .inl (Int.le_refl _)⟩⟩
  | k + 1, hk => by
    have ih := sdT_rng (L := L) (s := s) (p := p) (mode := mode) (lot := lot) hv k (by omega)
    show (0 ≤ (stp L s p mode lot k (sdT L s p mode lot v k)).2 ∧ (stp L s p mode lot k (sdT L s p mode lot v k)).2 ≤ v) ∧ ∀ j, 0 ≤ (stp L s p mode lot k (sdT L s p mode lot v k)).1 j ∧ ((stp L s p mode lot k (sdT L s p mode lot v k)).1 j ≤ 0 ∨ (j < L.length ∧ (stp L s p mode lot k (sdT L s p mode lot v k)).1 j ≤ (L[j]!).qty ∧ (L[j]!).side = s ∧ wnO L[j]! p = true))
    generalize sdT L s p mode lot v k = S at ih ⊢
    by_cases c : stO L s p k = true ∧ ¬ NoSh mode (Qat L k) S.2 lot
    · obtain ⟨c1, c2⟩ := c
      rw [stp_yes c1 c2]
      obtain ⟨_, hok⟩ := shOk c2
      have ha := all_rng (mode := mode) hok
      refine ⟨⟨by show 0 ≤ S.2 - _; omega, by show S.2 - _ ≤ v; omega⟩, fun j => ?_⟩
      show 0 ≤ ovr S.1 k (rlA L k) _ j ∧ (ovr S.1 k (rlA L k) _ j ≤ 0 ∨ (j < L.length ∧ ovr S.1 k (rlA L k) _ j ≤ _ ∧ _))
      unfold ovr
      by_cases hj : k ≤ j ∧ j < k + rlA L k
      · rw [if_pos hj]
        have hkl : k < L.length := by omega
        have hg := gt_rng (mode := mode) hok (k := j - k) (by rw [Qat_len hkl]; omega)
        have hr := rlA_le L hkl
        rw [Qat_sub hkl (by omega), show k + (j - k) = j by omega] at hg
        refine ⟨hg.1, .inr ⟨by omega, hg.2, ?_⟩⟩
        have hsm := smO_iff.1 ((rlA_spec hkl).1 (j - k) (by omega))
        rw [show k + (j - k) = j by omega] at hsm
        unfold stO at c1
        simp only [Bool.and_eq_true, beq_iff_eq] at c1
        refine ⟨hsm.1.trans c1.1.1, ?_⟩
        have := c1.1.2
        unfold wnO at this ⊢
        rw [hsm.1, hsm.2]; exact this
      · rw [if_neg hj]; exact ih.2 j
    · unfold stp; rw [if_neg c]; exact ih
end Go.Proofs.Ytdjbnnjcifgnlaa

namespace Go.Proofs.Ytdjbnnjcifgnlaa
open Go.RowKit Go.Lib Go.Maps
set_option linter.unusedVariables false

/-- May a volume be handed out so? -/
def mayS (v mode lot : Int) : Bool := decide (1 ≤ v) && (decide (v ≤ 4611686018427387904) && (decide (1 ≤ mode) && (decide (mode ≤ 2) && (decide (1 ≤ lot) && decide (lot ≤ 1099511627776)))))
set_option maxHeartbeats 4000000 in
set_option maxRecDepth 100000 in
theorem may_c (v mode lot : Int) (w : World) : Calls Try.prog 24 #[.int .i64 v, .int .i64 mode, .int .i64 lot] w fun e w' => e = .returned (.bool (mayS v mode lot)) ∧ w = w' := by
  unfold mayS
  by_cases h0 : 1 ≤ v
  rotate_left
  · have g0 : decide (1 ≤ v) = false := decide_eq_false h0
    have e : decide (1 ≤ v) = false := decide_eq_false h0
    rw [e]
    simp only [Bool.false_and]
    clear e h0
    go_enter Try.func24, Try.ntmps24
    go_wp2_with fail
    go_ret
    exact ⟨rfl, rfl⟩
  have g0 : decide (1 ≤ v) = true := decide_eq_true h0
  rw [g0]
  rw [Bool.true_and]
  by_cases h1 : v ≤ 4611686018427387904
  rotate_left
  · have g1 : decide (v ≤ 4611686018427387904) = false := decide_eq_false h1
    have e : decide (v ≤ 4611686018427387904) = false := decide_eq_false h1
    rw [e]
    simp only [Bool.false_and]
    clear e h1
    go_enter Try.func24, Try.ntmps24
    go_wp2_with fail
    go_ret
    exact ⟨rfl, rfl⟩
  have g1 : decide (v ≤ 4611686018427387904) = true := decide_eq_true h1
  rw [g1]
  rw [Bool.true_and]
  by_cases h2 : 1 ≤ mode
  rotate_left
  · have g2 : decide (1 ≤ mode) = false := decide_eq_false h2
    have e : decide (1 ≤ mode) = false := decide_eq_false h2
    rw [e]
    simp only [Bool.false_and]
    clear e h2
    go_enter Try.func24, Try.ntmps24
    go_wp2_with fail
    go_ret
    exact ⟨rfl, rfl⟩
  have g2 : decide (1 ≤ mode) = true := decide_eq_true h2
  rw [g2]
  rw [Bool.true_and]
  by_cases h3 : mode ≤ 2
  rotate_left
  · have g3 : decide (mode ≤ 2) = false := decide_eq_false h3
    have e : decide (mode ≤ 2) = false := decide_eq_false h3
    rw [e]
    simp only [Bool.false_and]
    clear e h3
    go_enter Try.func24, Try.ntmps24
    go_wp2_with fail
    go_ret
    exact ⟨rfl, rfl⟩
  have g3 : decide (mode ≤ 2) = true := decide_eq_true h3
  rw [g3]
  rw [Bool.true_and]
  by_cases h4 : 1 ≤ lot
  rotate_left
  · have g4 : decide (1 ≤ lot) = false := decide_eq_false h4
    have e : decide (1 ≤ lot) = false := decide_eq_false h4
    rw [e]
    simp only [Bool.false_and]
    clear e h4
    go_enter Try.func24, Try.ntmps24
    go_wp2_with fail
    go_ret
    exact ⟨rfl, rfl⟩
  have g4 : decide (1 ≤ lot) = true := decide_eq_true h4
  rw [g4]
  rw [Bool.true_and]
  by_cases h5 : lot ≤ 1099511627776
  rotate_left
  · have g5 : decide (lot ≤ 1099511627776) = false := decide_eq_false h5
    have e : decide (lot ≤ 1099511627776) = false := decide_eq_false h5
    rw [e]
    clear e h5
    go_enter Try.func24, Try.ntmps24
    go_wp2_with fail
    go_ret
    exact ⟨rfl, rfl⟩
  have g5 : decide (lot ≤ 1099511627776) = true := decide_eq_true h5
  rw [g5]
  go_enter Try.func24, Try.ntmps24
  go_wp2_with fail
  go_ret
  exact ⟨rfl, rfl⟩
theorem first_same (M : List Od) : ∀ j, j < 1 → smO M[j]! M[0]! = true := by
  intro j hj
  obtain rfl : j = 0 := by omega
  exact smO_refl _
set_option maxHeartbeats 4000000 in
set_option maxRecDepth 100000 in
theorem run_c (A : Option Addr) (n c : Nat) (M : List Od) (w : World) (HO : Ods w A n M) (hn0 : 0 < n) (hn : n ≤ 64) :
    Calls Try.prog 25 #[.slice A n c] w fun e w' => e = .returned (.int .i64 (rlN M : Nat)) ∧ Below w.heap.size w w' := by
  have HL := Lib.hid HO.1
  obtain ⟨r, hr⟩ : ∃ r, r = rlN M := ⟨_, rfl⟩
  rw [← hr]
  have HR := Lib.hid hr
  obtain ⟨b, off, rfl, hb, hc⟩ : ∃ b off, A = some ⟨b, off, none⟩ ∧ b < w.heap.size ∧ ∀ i, i < n → (M[i]!).at w b (off + i * 6) := by
    rcases HO.2.2.2 with h | h
    · omega
    · exact h
  have HC := Lib.hid hc
  have HB := Lib.hid hb
  have hnI : (0 : Int) < (n : Int) := by omega
  clear HO hr hc hb
  go_enter Try.func25, Try.ntmps25
  go_wp2_with fail
  go_loopg [3] n (fun kx s3 wr => ∃ k : Nat, s3 = .int .i64 (k : Int) ∧ 1 ≤ k ∧ k ≤ n ∧ n - k ≤ kx ∧ Hid (∀ j, j < k → smO M[j]! M[0]! = true) ∧ Hid (Below w.heap.size w wr))
  case atStart => exact ⟨1, rfl, by omega, by omega, by omega, Lib.hid (first_same M), Lib.hid (Below.refl _ _)⟩
  case round =>
    obtain ⟨k, rfl, hk1, hk, hkx, hS, hBB⟩ := hrel
    have hk0 : (0 : Int) ≤ (k : Int) := by omega
    have hz := HC.out 0 hn0
    obtain ⟨z, ez⟩ : ∃ z, M[0]! = z := ⟨_, rfl⟩
    rw [ez] at hz
    have HZ := Lib.hid ez
    rw [show off + 0 * 6 = off by omega] at hz
    obtain ⟨_, _, z2, z3, _, _⟩ := hz
    have z2 := (hBB.out.cell (p := ⟨b, off + 2, none⟩) HB.out).trans z2
    have z3 := (hBB.out.cell (p := ⟨b, off + 3, none⟩) HB.out).trans z3
    clear ez
    by_cases hlt : k < n
    · have hltI : (k : Int) < (n : Int) := by omega
      have gk : decide ((k : Int) < (n : Int)) = true := decide_eq_true hltI
      have hx := HC.out k hlt
      obtain ⟨x, ex⟩ : ∃ x, M[k]! = x := ⟨_, rfl⟩
      rw [ex] at hx
      have HX := Lib.hid ex
      obtain ⟨_, _, x2, x3, _, _⟩ := hx
      have x2 := (hBB.out.cell (p := ⟨b, off + k * 6 + 2, none⟩) HB.out).trans x2
      have x3 := (hBB.out.cell (p := ⟨b, off + k * 6 + 3, none⟩) HB.out).trans x3
      clear ex
      have HNo : smO x z = false → Hid (r = k) := fun h => Lib.hid (by
        rw [HR.out]
        exact rlN_eq hk1 (by rw [HL.out]; omega) hS.out (fun _ => by rw [HX.out, HZ.out]; exact h))
      have HYes : smO x z = true → Hid (∀ j, j < k + 1 → smO M[j]! M[0]! = true) := fun h => Lib.hid (fun j hj => by
        by_cases e : j < k
        · exact hS.out j e
        · obtain rfl : j = k := by omega
          rw [HX.out, HZ.out]; exact h)
      unfold smO at HNo HYes
      cases e1 : (x.side == z.side) with
      | false =>
        have HF := HNo (by rw [e1]; rfl)
        clear HNo HYes
        go_wp2_with fail
        go_quiet (fail)
        go_wp2_with fail
        go_ret
        rw [HF.out]
        exact ⟨rfl, below_drewN hBB.out _⟩
      | true =>
        cases e2 : (x.price == z.price) with
        | false =>
          have HF := HNo (by rw [e1, e2]; rfl)
          clear HNo HYes
          go_wp2_with fail
          go_quiet (fail)
          go_wp2_with fail
          go_ret
          rw [HF.out]
          exact ⟨rfl, below_drewN hBB.out _⟩
        | true =>
          have HF := HYes (by rw [e1, e2]; rfl)
          clear HNo HYes
          go_wp2_with fail
          go_quiet (fail)
          have hN : Hid (Below w.heap.size w (wr.drewN nq)) := Lib.hid (below_drewN hBB.out nq)
          go_wp2_with fail
          go_roundg (n - (k + 1))
          case measure => omega
          case rel => exact ⟨k + 1, by go_num, by omega, by omega, by omega, HF, hN⟩
    · have hltI : ¬ (k : Int) < (n : Int) := by omega
      have gk : decide ((k : Int) < (n : Int)) = false := decide_eq_false hltI
      have HF : Hid (r = k) := Lib.hid (by
        rw [HR.out]
        exact rlN_eq hk1 (by rw [HL.out]; omega) hS.out (fun h => by rw [HL.out] at h; omega))
      go_wp2_with fail
      go_quiet (fail)
      go_wp2_with fail
      go_ret
      rw [HF.out]
      exact ⟨rfl, below_drewN hBB.out _⟩
end Go.Proofs.Ytdjbnnjcifgnlaa

namespace Go.Proofs.Ytdjbnnjcifgnlaa
open Go.RowKit

set_option maxHeartbeats 4000000 in
set_option maxRecDepth 100000 in
theorem refDiv_core (a b c round : Int) (n d q r : Nat) (sp sc neg odd aw : Bool) (res : Int) (hx : InR a) (hy : InR b) (hz : InR c) (hround : round = 1 ∨ round = 2 ∨ round = 3) (e0 : (c == 0) = false)
    (hneg : (sp == sc) = !neg) (hodd : odd = decide (q % 2 = 1)) (haw : aw = awayB round neg odd r d) (hd0 : 0 < d) (hd : d < 2 ^ 134) (hn : n < 2 ^ 134) (hq : q = n / d) (hr : r = n % d)
    (hres : res = if neg then -((q + if aw then 1 else 0 : Nat) : Int) else ((q + if aw then 1 else 0 : Nat) : Int)) (hc : NZ c = NC d sc)
    (HT : Hid (∀ w, Calls Try.prog 65 #[.agg (NZ a), .agg (NZ b)] w fun e w' => e = .returned (.agg (NC n sp)) ∧ Below w.heap.size w w')) (w : World) :
    Calls Try.prog 46 #[.int .i64 a, .int .i64 b, .int .i64 c, .int .i64 round] w fun e w' => e = .returned (.tuple #[.int .i64 (tv res), .int .i64 (te res)]) ∧ Below w.heap.size w w' := by
  have hz83 := zero83
  have Hx := Lib.hid hx
  have Hy := Lib.hid hy
  have Hz := Lib.hid hz
  clear hx hy hz
  have HP : Hid (∀ w, Calls Try.prog 67 #[.agg (NC n sp), .agg (NC d sc)] w fun e w' => e = .returned (.tuple #[.agg (NC q false), .agg (NC r false)]) ∧ Below w.heap.size w w') := by
    intro w; rw [hq, hr]; exact parts_n n d sp sc (by omega) hd0 hd w
  have HOc : Hid (∀ w, Calls Try.prog 66 #[.int .i64 c] w fun e w' => e = .returned (.agg (NC d sc)) ∧ Below w.heap.size w w') := by
    intro w; rw [← hc]; exact Of_z c Hz.out w
  have hrd : r < d := by rw [hr]; exact Nat.mod_lt _ hd0
  have hqn : q ≤ n := by rw [hq]; exact Nat.div_le_self _ _
  have Hq := Lib.hid hqn; clear hqn hq
  have Hn := Lib.hid hn; clear hn
  have Hd := Lib.hid hd; clear hd
  have Hrd := Lib.hid hrd; clear hrd hr
  have Hodd := Lib.hid hodd; clear hodd
  have Haw := Lib.hid haw; clear haw
  have Hres := Lib.hid hres; clear hres hc hd0
  have r1 : (1 : Int) ≤ round := by omega
  have r2 : round ≤ 3 := by omega
  have Hround := Lib.hid hround; clear hround
  go_enter Try.func46, Try.ntmps46
  go_wp2_with fail
  ((with_reducible refine (Of_z a Hx.out _).mono ?_); rintro e w1 ⟨rfl, hb1⟩)
  go_wp2_with fail
  ((with_reducible refine (Of_z b Hy.out _).mono ?_); rintro e w2 ⟨rfl, hb2⟩)
  go_wp2_with fail
  ((with_reducible refine (HT.out _).mono ?_); rintro e w3 ⟨rfl, hb3⟩)
  have B3 : Hid (Below w.heap.size w w3) := (hb1.trans (hb2.mono hb1.size)).trans (hb3.mono (Nat.le_trans hb1.size hb2.size))
  clear hb1 hb2 hb3
  go_wp2_with (first | ((with_reducible apply load83); rfl; rfl; rfl; (focus ((repeat' (first | (with_reducible assumption) | ((with_reducible refine heap_last ?_); (focus (first | (simp; done) | omega | (simp; omega)))) | ((with_reducible refine heap_prev ?_ ?_); (focus (first | (simp; done) | omega | (simp; omega)))) | (with_reducible apply sign_heap) | (with_reducible apply row_heap) | (with_reducible apply bit0_heap) | ((with_reducible refine sign_other ?_ ?_); (focus (first | (simp; done) | omega | (simp; omega)))) | ((with_reducible refine row_other ?_ ?_); (focus (first | (simp; done) | omega | (simp; omega)))) | (with_reducible refine drew_heap ?_))); done)); skip) | (first | ((with_reducible apply store83_0); rfl; rfl; rfl; rfl; (focus (simp; done)); skip) | ((with_reducible apply store83_1); rfl; rfl; rfl; rfl; (focus (simp; done)); skip) | ((with_reducible apply store83_2); rfl; rfl; rfl; rfl; (focus (simp; done)); skip) | ((with_reducible apply store83_3); rfl; rfl; rfl; rfl; (focus (simp; done)); skip) | ((with_reducible apply store83_4); rfl; rfl; rfl; rfl; (focus (simp; done)); skip)))
  ((with_reducible refine (HOc.out _).mono ?_); rintro e w4 ⟨rfl, hb4⟩)
  have z4 : w3.heap.size < w4.heap.size := by have := hb4.size; simp at this; omega
  have P4 : w4.heap[w3.heap.size]? = some (.cells (NC n sp) 108 (0, 0)) := by rw [hb4.block _ (by simp)]; (focus ((repeat' (first | (with_reducible assumption) | ((with_reducible refine heap_last ?_); (focus (first | (simp; done) | omega | (simp; omega)))) | ((with_reducible refine heap_prev ?_ ?_); (focus (first | (simp; done) | omega | (simp; omega)))) | (with_reducible apply sign_heap) | (with_reducible apply row_heap) | (with_reducible apply bit0_heap) | ((with_reducible refine sign_other ?_ ?_); (focus (first | (simp; done) | omega | (simp; omega)))) | ((with_reducible refine row_other ?_ ?_); (focus (first | (simp; done) | omega | (simp; omega)))) | (with_reducible refine drew_heap ?_))); done))
  have B4 : Hid (Below w.heap.size w w4) := Below.trans (Below.alloc B3.out B3.out.size _) (hb4.mono (by have := B3.out.size; simp; omega))
  clear hb4 B3
  go_wp2_with (first | ((with_reducible apply load83); rfl; rfl; rfl; (focus ((repeat' (first | (with_reducible assumption) | ((with_reducible refine heap_last ?_); (focus (first | (simp; done) | omega | (simp; omega)))) | ((with_reducible refine heap_prev ?_ ?_); (focus (first | (simp; done) | omega | (simp; omega)))) | (with_reducible apply sign_heap) | (with_reducible apply row_heap) | (with_reducible apply bit0_heap) | ((with_reducible refine sign_other ?_ ?_); (focus (first | (simp; done) | omega | (simp; omega)))) | ((with_reducible refine row_other ?_ ?_); (focus (first | (simp; done) | omega | (simp; omega)))) | (with_reducible refine drew_heap ?_))); done)); skip) | (first | ((with_reducible apply store83_0); rfl; rfl; rfl; rfl; (focus (simp; done)); skip) | ((with_reducible apply store83_1); rfl; rfl; rfl; rfl; (focus (simp; done)); skip) | ((with_reducible apply store83_2); rfl; rfl; rfl; rfl; (focus (simp; done)); skip) | ((with_reducible apply store83_3); rfl; rfl; rfl; rfl; (focus (simp; done)); skip) | ((with_reducible apply store83_4); rfl; rfl; rfl; rfl; (focus (simp; done)); skip)))
  ((with_reducible refine (HP.out _).mono ?_); rintro e w5 ⟨rfl, hb5⟩)
  have z5 : w4.heap.size < w5.heap.size := by have := hb5.size; simp at this; omega
  have P5 : w5.heap[w3.heap.size]? = some (.cells (NC n sp) 108 (0, 0)) := by rw [hb5.block _ (by simp; omega)]; (focus ((repeat' (first | (with_reducible assumption) | ((with_reducible refine heap_last ?_); (focus (first | (simp; done) | omega | (simp; omega)))) | ((with_reducible refine heap_prev ?_ ?_); (focus (first | (simp; done) | omega | (simp; omega)))) | (with_reducible apply sign_heap) | (with_reducible apply row_heap) | (with_reducible apply bit0_heap) | ((with_reducible refine sign_other ?_ ?_); (focus (first | (simp; done) | omega | (simp; omega)))) | ((with_reducible refine row_other ?_ ?_); (focus (first | (simp; done) | omega | (simp; omega)))) | (with_reducible refine drew_heap ?_))); done))
  have C5 : w5.heap[w4.heap.size]? = some (.cells (NC d sc) 108 (0, 0)) := by rw [hb5.block _ (by simp)]; (focus ((repeat' (first | (with_reducible assumption) | ((with_reducible refine heap_last ?_); (focus (first | (simp; done) | omega | (simp; omega)))) | ((with_reducible refine heap_prev ?_ ?_); (focus (first | (simp; done) | omega | (simp; omega)))) | (with_reducible apply sign_heap) | (with_reducible apply row_heap) | (with_reducible apply bit0_heap) | ((with_reducible refine sign_other ?_ ?_); (focus (first | (simp; done) | omega | (simp; omega)))) | ((with_reducible refine row_other ?_ ?_); (focus (first | (simp; done) | omega | (simp; omega)))) | (with_reducible refine drew_heap ?_))); done))
  have B5 : Hid (Below w.heap.size w w5) := Below.trans (Below.alloc B4.out B4.out.size _) (hb5.mono (by have := B4.out.size; simp; omega))
  clear hb5 B4 P4
  have cP : ((w5.alloc (.cells (NC q false) 108)).alloc (.cells (NC r false) 108)).cell? ⟨w3.heap.size, 136, none⟩ = some (.bool sp) := cell_heap (heap_prev (by simp; omega) (heap_prev (by omega) P5)) (NC_sign _ _)
  have cC : ((w5.alloc (.cells (NC q false) 108)).alloc (.cells (NC r false) 108)).cell? ⟨w4.heap.size, 136, none⟩ = some (.bool sc) := cell_heap (heap_prev (by simp; omega) (heap_prev (by omega) C5)) (NC_sign _ _)
  obtain ⟨b0, hb0⟩ : ∃ b0, b0 = decide (r = 0) := ⟨_, rfl⟩
  have Hb0 := Lib.hid hb0; clear hb0
  go_wp2_with (first | ((with_reducible apply load83); rfl; rfl; rfl; (focus ((repeat' (first | (with_reducible assumption) | ((with_reducible refine heap_last ?_); (focus (first | (simp; done) | omega | (simp; omega)))) | ((with_reducible refine heap_prev ?_ ?_); (focus (first | (simp; done) | omega | (simp; omega)))) | (with_reducible apply sign_heap) | (with_reducible apply row_heap) | (with_reducible apply bit0_heap) | ((with_reducible refine sign_other ?_ ?_); (focus (first | (simp; done) | omega | (simp; omega)))) | ((with_reducible refine row_other ?_ ?_); (focus (first | (simp; done) | omega | (simp; omega)))) | (with_reducible refine drew_heap ?_))); done)); skip) | (first | ((with_reducible apply store83_0); rfl; rfl; rfl; rfl; (focus (simp; done)); skip) | ((with_reducible apply store83_1); rfl; rfl; rfl; rfl; (focus (simp; done)); skip) | ((with_reducible apply store83_2); rfl; rfl; rfl; rfl; (focus (simp; done)); skip) | ((with_reducible apply store83_3); rfl; rfl; rfl; rfl; (focus (simp; done)); skip) | ((with_reducible apply store83_4); rfl; rfl; rfl; rfl; (focus (simp; done)); skip)))
  ((with_reducible refine (nought_c r false b0 (by have := Hrd.out; have := Hd.out; omega) Hb0.out _).mono ?_); rintro e w6 ⟨rfl, hb6⟩)
  have z6 : w5.heap.size + 2 ≤ w6.heap.size := by have := hb6.size; simp at this; omega
  have C6 : w6.heap[w4.heap.size]? = some (.cells (NC d sc) 108 (0, 0)) := by rw [hb6.block _ (by simp; omega)]; (focus ((repeat' (first | (with_reducible assumption) | ((with_reducible refine heap_last ?_); (focus (first | (simp; done) | omega | (simp; omega)))) | ((with_reducible refine heap_prev ?_ ?_); (focus (first | (simp; done) | omega | (simp; omega)))) | (with_reducible apply sign_heap) | (with_reducible apply row_heap) | (with_reducible apply bit0_heap) | ((with_reducible refine sign_other ?_ ?_); (focus (first | (simp; done) | omega | (simp; omega)))) | ((with_reducible refine row_other ?_ ?_); (focus (first | (simp; done) | omega | (simp; omega)))) | (with_reducible refine drew_heap ?_))); done))
  have Q6 : w6.heap[w5.heap.size]? = some (.cells (NC q false) 108 (0, 0)) := by rw [hb6.block _ (by simp; omega)]; (focus ((repeat' (first | (with_reducible assumption) | ((with_reducible refine heap_last ?_); (focus (first | (simp; done) | omega | (simp; omega)))) | ((with_reducible refine heap_prev ?_ ?_); (focus (first | (simp; done) | omega | (simp; omega)))) | (with_reducible apply sign_heap) | (with_reducible apply row_heap) | (with_reducible apply bit0_heap) | ((with_reducible refine sign_other ?_ ?_); (focus (first | (simp; done) | omega | (simp; omega)))) | ((with_reducible refine row_other ?_ ?_); (focus (first | (simp; done) | omega | (simp; omega)))) | (with_reducible refine drew_heap ?_))); done))
  have R6 : w6.heap[w5.heap.size + 1]? = some (.cells (NC r false) 108 (0, 0)) := by rw [hb6.block _ (by simp)]; (focus ((repeat' (first | (with_reducible assumption) | ((with_reducible refine heap_last ?_); (focus (first | (simp; done) | omega | (simp; omega)))) | ((with_reducible refine heap_prev ?_ ?_); (focus (first | (simp; done) | omega | (simp; omega)))) | (with_reducible apply sign_heap) | (with_reducible apply row_heap) | (with_reducible apply bit0_heap) | ((with_reducible refine sign_other ?_ ?_); (focus (first | (simp; done) | omega | (simp; omega)))) | ((with_reducible refine row_other ?_ ?_); (focus (first | (simp; done) | omega | (simp; omega)))) | (with_reducible refine drew_heap ?_))); done))
  have B6 : Hid (Below w.heap.size w w6) := Below.trans (Below.alloc (Below.alloc B5.out B5.out.size _) (by have := B5.out.size; simp; omega) _) (hb6.mono (by have := B5.out.size; simp; omega))
  have BR := B5.out.size
  clear hb6 cP cC B5 P5 C5
  go_upto_if 45 with fail
  go_cut [15, 16] (fun s15 s16 wx => s15 = .bool aw ∧ Below w6.heap.size w6 wx)
  case first =>
    cases b0
    · have hr0 : ¬ r = 0 := by have := Hb0.out; simpa using this
      rcases Hround.out with rfl | rfl | rfl
      · have ha1 : aw = neg := by rw [Haw.out, awayB, if_neg hr0]; simp
        clear hr0
        go_wp2_with fail
        go_meet
        case rel => exact ⟨by rw [ha1], Below.refl _ _⟩
      · have ha1 : aw = !neg := by rw [Haw.out, awayB, if_neg hr0]; simp
        clear hr0
        go_wp2_with fail
        go_meet
        case rel => exact ⟨by rw [ha1], Below.refl _ _⟩
      · have ha1 : Hid (aw = (decide (d < 2 * r) || (decide (2 * r = d) && odd))) := by show _ = _; rw [Haw.out, awayB, if_neg hr0]; simp
        clear hr0
        go_wp2_with (first | ((with_reducible apply load83); rfl; rfl; rfl; (focus ((repeat' (first | (with_reducible assumption) | ((with_reducible refine heap_last ?_); (focus (first | (simp; done) | omega | (simp; omega)))) | ((with_reducible refine heap_prev ?_ ?_); (focus (first | (simp; done) | omega | (simp; omega)))) | (with_reducible apply sign_heap) | (with_reducible apply row_heap) | (with_reducible apply bit0_heap) | ((with_reducible refine sign_other ?_ ?_); (focus (first | (simp; done) | omega | (simp; omega)))) | ((with_reducible refine row_other ?_ ?_); (focus (first | (simp; done) | omega | (simp; omega)))) | (with_reducible refine drew_heap ?_))); done)); skip) | (first | ((with_reducible apply store83_0); rfl; rfl; rfl; rfl; (focus (simp; done)); skip) | ((with_reducible apply store83_1); rfl; rfl; rfl; rfl; (focus (simp; done)); skip) | ((with_reducible apply store83_2); rfl; rfl; rfl; rfl; (focus (simp; done)); skip) | ((with_reducible apply store83_3); rfl; rfl; rfl; rfl; (focus (simp; done)); skip) | ((with_reducible apply store83_4); rfl; rfl; rfl; rfl; (focus (simp; done)); skip)))
        ((with_reducible refine (twice_c _ _ _).mono ?_); rintro e w7 ⟨rfl, hb7⟩)
        have z7 : w6.heap.size ≤ w7.heap.size := hb7.size
        have C7 : w7.heap[w4.heap.size]? = some (.cells (NC d sc) 108 (0, 0)) := by rw [hb7.block _ (by omega)]; exact C6
        have Q7 : w7.heap[w5.heap.size]? = some (.cells (NC q false) 108 (0, 0)) := by rw [hb7.block _ (by omega)]; exact Q6
        have B7 := Lib.hid hb7
        clear hb7 C6 Q6 R6
        obtain ⟨b1, hb1⟩ : ∃ b1, b1 = decide (d < 2 * r) := ⟨_, rfl⟩
        have Hb1 := Lib.hid hb1; clear hb1
        go_wp2_with (first | ((with_reducible apply load83); rfl; rfl; rfl; (focus ((repeat' (first | (with_reducible assumption) | ((with_reducible refine heap_last ?_); (focus (first | (simp; done) | omega | (simp; omega)))) | ((with_reducible refine heap_prev ?_ ?_); (focus (first | (simp; done) | omega | (simp; omega)))) | (with_reducible apply sign_heap) | (with_reducible apply row_heap) | (with_reducible apply bit0_heap) | ((with_reducible refine sign_other ?_ ?_); (focus (first | (simp; done) | omega | (simp; omega)))) | ((with_reducible refine row_other ?_ ?_); (focus (first | (simp; done) | omega | (simp; omega)))) | (with_reducible refine drew_heap ?_))); done)); skip) | (first | ((with_reducible apply store83_0); rfl; rfl; rfl; rfl; (focus (simp; done)); skip) | ((with_reducible apply store83_1); rfl; rfl; rfl; rfl; (focus (simp; done)); skip) | ((with_reducible apply store83_2); rfl; rfl; rfl; rfl; (focus (simp; done)); skip) | ((with_reducible apply store83_3); rfl; rfl; rfl; rfl; (focus (simp; done)); skip) | ((with_reducible apply store83_4); rfl; rfl; rfl; rfl; (focus (simp; done)); skip)))
        ((with_reducible refine (below_c d (2 * r) sc false b1 (by have := Hd.out; omega) (by have := Hrd.out; have := Hd.out; omega) Hb1.out _).mono ?_); rintro e w8 ⟨rfl, hb8⟩)
        have z8 : w7.heap.size + 1 ≤ w8.heap.size := by have := hb8.size; simp at this; omega
        have C8 : w8.heap[w4.heap.size]? = some (.cells (NC d sc) 108 (0, 0)) := by rw [hb8.block _ (by simp; omega)]; (focus ((repeat' (first | (with_reducible assumption) | ((with_reducible refine heap_last ?_); (focus (first | (simp; done) | omega | (simp; omega)))) | ((with_reducible refine heap_prev ?_ ?_); (focus (first | (simp; done) | omega | (simp; omega)))) | (with_reducible apply sign_heap) | (with_reducible apply row_heap) | (with_reducible apply bit0_heap) | ((with_reducible refine sign_other ?_ ?_); (focus (first | (simp; done) | omega | (simp; omega)))) | ((with_reducible refine row_other ?_ ?_); (focus (first | (simp; done) | omega | (simp; omega)))) | (with_reducible refine drew_heap ?_))); done))
        have Q8 : w8.heap[w5.heap.size]? = some (.cells (NC q false) 108 (0, 0)) := by rw [hb8.block _ (by simp; omega)]; (focus ((repeat' (first | (with_reducible assumption) | ((with_reducible refine heap_last ?_); (focus (first | (simp; done) | omega | (simp; omega)))) | ((with_reducible refine heap_prev ?_ ?_); (focus (first | (simp; done) | omega | (simp; omega)))) | (with_reducible apply sign_heap) | (with_reducible apply row_heap) | (with_reducible apply bit0_heap) | ((with_reducible refine sign_other ?_ ?_); (focus (first | (simp; done) | omega | (simp; omega)))) | ((with_reducible refine row_other ?_ ?_); (focus (first | (simp; done) | omega | (simp; omega)))) | (with_reducible refine drew_heap ?_))); done))
        have T8 : w8.heap[w7.heap.size]? = some (.cells (NC (2 * r) false) 108 (0, 0)) := by rw [hb8.block _ (by simp)]; (focus ((repeat' (first | (with_reducible assumption) | ((with_reducible refine heap_last ?_); (focus (first | (simp; done) | omega | (simp; omega)))) | ((with_reducible refine heap_prev ?_ ?_); (focus (first | (simp; done) | omega | (simp; omega)))) | (with_reducible apply sign_heap) | (with_reducible apply row_heap) | (with_reducible apply bit0_heap) | ((with_reducible refine sign_other ?_ ?_); (focus (first | (simp; done) | omega | (simp; omega)))) | ((with_reducible refine row_other ?_ ?_); (focus (first | (simp; done) | omega | (simp; omega)))) | (with_reducible refine drew_heap ?_))); done))
        have B8 : Hid (Below w6.heap.size w6 w8) := Below.trans (Below.alloc B7.out B7.out.size _) (hb8.mono (by simp; omega))
        clear hb8 B7 C7 Q7
        cases b1
        · obtain ⟨b2, hb2⟩ : ∃ b2, b2 = decide (2 * r < d) := ⟨_, rfl⟩
          have Hb2 := Lib.hid hb2; clear hb2
          go_wp2_with (first | ((with_reducible apply load83); rfl; rfl; rfl; (focus ((repeat' (first | (with_reducible assumption) | ((with_reducible refine heap_last ?_); (focus (first | (simp; done) | omega | (simp; omega)))) | ((with_reducible refine heap_prev ?_ ?_); (focus (first | (simp; done) | omega | (simp; omega)))) | (with_reducible apply sign_heap) | (with_reducible apply row_heap) | (with_reducible apply bit0_heap) | ((with_reducible refine sign_other ?_ ?_); (focus (first | (simp; done) | omega | (simp; omega)))) | ((with_reducible refine row_other ?_ ?_); (focus (first | (simp; done) | omega | (simp; omega)))) | (with_reducible refine drew_heap ?_))); done)); skip) | (first | ((with_reducible apply store83_0); rfl; rfl; rfl; rfl; (focus (simp; done)); skip) | ((with_reducible apply store83_1); rfl; rfl; rfl; rfl; (focus (simp; done)); skip) | ((with_reducible apply store83_2); rfl; rfl; rfl; rfl; (focus (simp; done)); skip) | ((with_reducible apply store83_3); rfl; rfl; rfl; rfl; (focus (simp; done)); skip) | ((with_reducible apply store83_4); rfl; rfl; rfl; rfl; (focus (simp; done)); skip)))
          ((with_reducible refine (below_c (2 * r) d false sc b2 (by have := Hrd.out; have := Hd.out; omega) (by have := Hd.out; omega) Hb2.out _).mono ?_); rintro e w9 ⟨rfl, hb9⟩)
          have Q9 : w9.heap[w5.heap.size]? = some (.cells (NC q false) 108 (0, 0)) := by rw [hb9.block _ (by omega)]; exact Q8
          have c9 : w9.cell? ⟨w5.heap.size, 0, none⟩ = some (.bool odd) := by
            rw [cell_of_row _ _ _ _ _ _ Q9, NC_get _ _ _ (by omega), Hodd.out]
            congr 2
            rw [Nat.testBit_zero]
          have B9 : Hid (Below w6.heap.size w6 w9) := B8.out.trans (hb9.mono (by omega))
          clear hb9 C8 Q8 T8 B8
          cases b2
          · have hao : aw = odd := by
              have h1 := Hb1.out; have h2 := Hb2.out
              have e3 : 2 * r = d := by simp at h1 h2; omega
              rw [ha1.out, ← h1]; simp [e3]
            go_wp2_with fail
            go_meet
            case rel => exact ⟨by rw [hao], B9.out⟩
          · have hao : aw = false := by
              have h1 := Hb1.out; have h2 := Hb2.out
              have e3 : ¬ 2 * r = d := by simp at h2; omega
              rw [ha1.out, ← h1]; simp [e3]
            go_wp2_with fail
            go_meet
            case rel => exact ⟨by rw [hao], B9.out⟩
        · have hao : aw = true := by
            have h1 := Hb1.out
            rw [ha1.out, ← h1]; rfl
          go_wp2_with fail
          go_meet
          case rel => exact ⟨by rw [hao], B8.out⟩
    · have hr0 : r = 0 := by have := Hb0.out; simpa using this
      have ha1 : aw = false := by rw [Haw.out, awayB, if_pos hr0]
      clear hr0
      go_wp2_with fail
      go_meet
      case rel => exact ⟨by rw [ha1], Below.refl _ _⟩
  case rest =>
    obtain ⟨rfl, hbx⟩ := hcut
    have zx : w6.heap.size ≤ wc.heap.size := hbx.size
    have Qx : wc.heap[w5.heap.size]? = some (.cells (NC q false) 108 (0, 0)) := by rw [hbx.block _ (by omega)]; exact Q6
    have Bx : Hid (Below w.heap.size w wc) := B6.out.trans (hbx.mono B6.out.size)
    clear hbx C6 Q6 R6 B6
    have z9 : w5.heap.size < wc.heap.size := by omega
    have O1 : Hid (∀ w, Calls Try.prog 66 #[.int .i64 1] w fun e w' => e = .returned (.agg (NC 1 false)) ∧ Below w.heap.size w w') := by
      intro w; exact Of_z 1 (by unfold InR; omega) w
    obtain ⟨m, hm⟩ : ∃ m, m = q + if aw then 1 else 0 := ⟨_, rfl⟩
    have Hm := Lib.hid hm; clear hm
    have Hr2 : Hid (res = if neg then -(m : Int) else (m : Int)) := by show _ = _; rw [Hm.out]; exact Hres.out
    have hmb : Hid (m < 2 ^ 135) := by show _ < _; have := Hm.out; have := Hq.out; have := Hn.out; cases aw <;> simp at * <;> omega
    clear Hres
    go_upto_if 70 with fail
    go_cut [16] (fun _ wx => Hid (wx.heap[w5.heap.size]? = some (.cells (NC m false) 108 (0, 0))) ∧ Hid (Below w.heap.size w wx))
    case first =>
      cases aw
      · have hmq : m = q := by have := Hm.out; simpa using this
        go_wp2_with fail
        go_meet
        case rel => exact ⟨by rw [hmq]; exact Qx, Bx⟩
      · have hmq : q + 1 = m := by have := Hm.out; simp at this; omega
        have Hmq := Lib.hid hmq; clear hmq
        go_wp2_with fail
        refine wp_region_any (by kernel_rfl) ?_
        change wpAny _ _ _ _ _ _ _ (World.drew _)
        (refine wpAny_ready (rs := [0, 1]) (by kernel_rfl) (by simp) (AllReady.cons rfl (fun K hK => ?_) (AllReady.cons rfl (fun K hK => ?_) AllReady.nil)))
        · ((with_reducible apply any_load83); rfl; rfl; rfl; (focus ((repeat' (first | (with_reducible assumption) | ((with_reducible refine heap_last ?_); (focus (first | (simp; done) | omega | (simp; omega)))) | ((with_reducible refine heap_prev ?_ ?_); (focus (first | (simp; done) | omega | (simp; omega)))) | (with_reducible apply sign_heap) | (with_reducible apply row_heap) | (with_reducible apply bit0_heap) | ((with_reducible refine sign_other ?_ ?_); (focus (first | (simp; done) | omega | (simp; omega)))) | ((with_reducible refine row_other ?_ ?_); (focus (first | (simp; done) | omega | (simp; omega)))) | (with_reducible refine drew_heap ?_))); done)); refine hK _ _ ?_; clear hK K)
          (refine wpAny_ready (rs := [1]) (by kernel_rfl) (by simp) (AllReady.cons rfl (fun K hK => ?_) AllReady.nil))
          go_simp
          ((with_reducible refine (O1.out _).mono ?_); rintro e w7 ⟨rfl, b7⟩)
          refine hK _ _ ?_
          clear hK K
          have s7 := b7.size
          have Q7 : w7.heap[w5.heap.size]? = some (.cells (NC q false) 108 (0, 0)) := by rw [b7.block _ (by first | omega | (simp; omega))]; (focus ((repeat' (first | (with_reducible assumption) | ((with_reducible refine heap_last ?_); (focus (first | (simp; done) | omega | (simp; omega)))) | ((with_reducible refine heap_prev ?_ ?_); (focus (first | (simp; done) | omega | (simp; omega)))) | (with_reducible apply sign_heap) | (with_reducible apply row_heap) | (with_reducible apply bit0_heap) | ((with_reducible refine sign_other ?_ ?_); (focus (first | (simp; done) | omega | (simp; omega)))) | ((with_reducible refine row_other ?_ ?_); (focus (first | (simp; done) | omega | (simp; omega)))) | (with_reducible refine drew_heap ?_))); done))
          have B7 : Hid (Below w.heap.size w w7) := Below.trans (Below.drew Bx.out) (b7.mono (by first | omega | (simp; omega)))
          clear b7
          (refine wpAny_ready (rs := [2]) (by kernel_rfl) (by simp) (AllReady.cons rfl (fun K hK => ?_) AllReady.nil))
          go_simp
          ((with_reducible refine (more_c _ _ _ _ _).mono ?_); rintro e w8 ⟨rfl, b8⟩)
          rw [Hmq.out]
          refine hK _ _ ?_
          clear hK K
          have s8 := b8.size
          have Q8 : w8.heap[w5.heap.size]? = some (.cells (NC q false) 108 (0, 0)) := by rw [b8.block _ (by first | omega | (simp at s7; omega))]; exact Q7
          have B8 : Below w.heap.size w w8 := B7.out.trans (b8.mono (by first | omega | (simp at s7; omega)))
          clear b8 B7 Q7
          (refine wpAny_ready (rs := [3]) (by kernel_rfl) (by simp) (AllReady.cons rfl (fun K hK => ?_) AllReady.nil))
          ((with_reducible apply any_store83); rfl; rfl; rfl; rfl; (focus ((repeat' (first | (with_reducible assumption) | ((with_reducible refine heap_last ?_); (focus (first | (simp; done) | omega | (simp; omega)))) | ((with_reducible refine heap_prev ?_ ?_); (focus (first | (simp; done) | omega | (simp; omega)))) | (with_reducible apply sign_heap) | (with_reducible apply row_heap) | (with_reducible apply bit0_heap) | ((with_reducible refine sign_other ?_ ?_); (focus (first | (simp; done) | omega | (simp; omega)))) | ((with_reducible refine row_other ?_ ?_); (focus (first | (simp; done) | omega | (simp; omega)))) | (with_reducible refine drew_heap ?_))); done)); refine hK _ _ ?_; clear hK K)
          refine wpAny_done (by kernel_rfl) ?_ _
          go_wp2_with fail
          go_meet
          case rel => exact ⟨row_heap Q8, by show Below _ _ _; (focus ((repeat' (first | (with_reducible exact Below.refl _ _) | (with_reducible assumption) | (with_reducible refine Below.alloc ?_ ?_ _) | (with_reducible refine Below.setCell ?_ ?_ _) | (with_reducible refine Below.row ?_ ?_ _) | (with_reducible refine Below.drew ?_) | (with_reducible refine below_drewN ?_ _) | (focus (first | (simp; done) | omega | (simp; omega))))); done))⟩
        · go_simp
          ((with_reducible refine (O1.out _).mono ?_); rintro e w7 ⟨rfl, b7⟩)
          refine hK _ _ ?_
          clear hK K
          have s7 := b7.size
          have Q7 : w7.heap[w5.heap.size]? = some (.cells (NC q false) 108 (0, 0)) := by rw [b7.block _ (by first | omega | (simp; omega))]; (focus ((repeat' (first | (with_reducible assumption) | ((with_reducible refine heap_last ?_); (focus (first | (simp; done) | omega | (simp; omega)))) | ((with_reducible refine heap_prev ?_ ?_); (focus (first | (simp; done) | omega | (simp; omega)))) | (with_reducible apply sign_heap) | (with_reducible apply row_heap) | (with_reducible apply bit0_heap) | ((with_reducible refine sign_other ?_ ?_); (focus (first | (simp; done) | omega | (simp; omega)))) | ((with_reducible refine row_other ?_ ?_); (focus (first | (simp; done) | omega | (simp; omega)))) | (with_reducible refine drew_heap ?_))); done))
          have B7 : Hid (Below w.heap.size w w7) := Below.trans (Below.drew Bx.out) (b7.mono (by first | omega | (simp; omega)))
          clear b7
          (refine wpAny_ready (rs := [0]) (by kernel_rfl) (by simp) (AllReady.cons rfl (fun K hK => ?_) AllReady.nil))
          ((with_reducible apply any_load83); rfl; rfl; rfl; (focus ((repeat' (first | (with_reducible assumption) | ((with_reducible refine heap_last ?_); (focus (first | (simp; done) | omega | (simp; omega)))) | ((with_reducible refine heap_prev ?_ ?_); (focus (first | (simp; done) | omega | (simp; omega)))) | (with_reducible apply sign_heap) | (with_reducible apply row_heap) | (with_reducible apply bit0_heap) | ((with_reducible refine sign_other ?_ ?_); (focus (first | (simp; done) | omega | (simp; omega)))) | ((with_reducible refine row_other ?_ ?_); (focus (first | (simp; done) | omega | (simp; omega)))) | (with_reducible refine drew_heap ?_))); done)); refine hK _ _ ?_; clear hK K)
          (refine wpAny_ready (rs := [2]) (by kernel_rfl) (by simp) (AllReady.cons rfl (fun K hK => ?_) AllReady.nil))
          go_simp
          ((with_reducible refine (more_c _ _ _ _ _).mono ?_); rintro e w8 ⟨rfl, b8⟩)
          rw [Hmq.out]
          refine hK _ _ ?_
          clear hK K
          have s8 := b8.size
          have Q8 : w8.heap[w5.heap.size]? = some (.cells (NC q false) 108 (0, 0)) := by rw [b8.block _ (by first | omega | (simp at s7; omega))]; exact Q7
          have B8 : Below w.heap.size w w8 := B7.out.trans (b8.mono (by first | omega | (simp at s7; omega)))
          clear b8 B7 Q7
          (refine wpAny_ready (rs := [3]) (by kernel_rfl) (by simp) (AllReady.cons rfl (fun K hK => ?_) AllReady.nil))
          ((with_reducible apply any_store83); rfl; rfl; rfl; rfl; (focus ((repeat' (first | (with_reducible assumption) | ((with_reducible refine heap_last ?_); (focus (first | (simp; done) | omega | (simp; omega)))) | ((with_reducible refine heap_prev ?_ ?_); (focus (first | (simp; done) | omega | (simp; omega)))) | (with_reducible apply sign_heap) | (with_reducible apply row_heap) | (with_reducible apply bit0_heap) | ((with_reducible refine sign_other ?_ ?_); (focus (first | (simp; done) | omega | (simp; omega)))) | ((with_reducible refine row_other ?_ ?_); (focus (first | (simp; done) | omega | (simp; omega)))) | (with_reducible refine drew_heap ?_))); done)); refine hK _ _ ?_; clear hK K)
          refine wpAny_done (by kernel_rfl) ?_ _
          go_wp2_with fail
          go_meet
          case rel => exact ⟨row_heap Q8, by show Below _ _ _; (focus ((repeat' (first | (with_reducible exact Below.refl _ _) | (with_reducible assumption) | (with_reducible refine Below.alloc ?_ ?_ _) | (with_reducible refine Below.setCell ?_ ?_ _) | (with_reducible refine Below.row ?_ ?_ _) | (with_reducible refine Below.drew ?_) | (with_reducible refine below_drewN ?_ _) | (focus (first | (simp; done) | omega | (simp; omega))))); done))⟩
    case rest =>
      obtain ⟨Qw, Bw⟩ := hcut
      have hgw := Qw.out
      have hlt : w5.heap.size < wc.heap.size := by
        rcases Nat.lt_or_ge w5.heap.size wc.heap.size with h | h
        · exact h
        · rw [Array.getElem?_eq_none h] at hgw; cases hgw
      have fS : wc.frozen? ⟨w5.heap.size, 136, none⟩ = false := frozen_of_row _ _ _ _ _ hgw
      have cS : wc.cell? ⟨w5.heap.size, 136, none⟩ = some (.bool false) := cell_heap hgw (NC_sign _ _)
      cases neg
      · have hrs : res = (m : Int) := by have := Hr2.out; simpa using this
        have TL : Hid (∀ w, Calls Try.prog 72 #[.agg (NC m false)] w fun e w' => e = .returned (.tuple #[.int .i64 (tv res), .int .i64 (te res)]) ∧ Below w.heap.size w w') := by
          intro w; rw [hrs]
          have := told_c (m : Int) (by have := hmb.out; omega) w
          unfold NZ at this
          have e1 : decide ((m : Int) < 0) = false := by simp
          rw [e1, Int.natAbs_natCast] at this
          exact this
        clear hrs Hr2
        go_wp2_with (first | ((with_reducible apply load83); rfl; rfl; rfl; (focus ((repeat' (first | (with_reducible assumption) | ((with_reducible refine heap_last ?_); (focus (first | (simp; done) | omega | (simp; omega)))) | ((with_reducible refine heap_prev ?_ ?_); (focus (first | (simp; done) | omega | (simp; omega)))) | (with_reducible apply sign_heap) | (with_reducible apply row_heap) | (with_reducible apply bit0_heap) | ((with_reducible refine sign_other ?_ ?_); (focus (first | (simp; done) | omega | (simp; omega)))) | ((with_reducible refine row_other ?_ ?_); (focus (first | (simp; done) | omega | (simp; omega)))) | (with_reducible refine drew_heap ?_))); done)); skip) | (first | ((with_reducible apply store83_0); rfl; rfl; rfl; rfl; (focus (simp; done)); skip) | ((with_reducible apply store83_1); rfl; rfl; rfl; rfl; (focus (simp; done)); skip) | ((with_reducible apply store83_2); rfl; rfl; rfl; rfl; (focus (simp; done)); skip) | ((with_reducible apply store83_3); rfl; rfl; rfl; rfl; (focus (simp; done)); skip) | ((with_reducible apply store83_4); rfl; rfl; rfl; rfl; (focus (simp; done)); skip)))
        ((with_reducible refine (TL.out _).mono ?_); rintro e w9 ⟨rfl, b9⟩)
        have B9 : Below w.heap.size w w9 := Below.trans (by have := Bw.out; (focus ((repeat' (first | (with_reducible exact Below.refl _ _) | (with_reducible assumption) | (with_reducible refine Below.alloc ?_ ?_ _) | (with_reducible refine Below.setCell ?_ ?_ _) | (with_reducible refine Below.row ?_ ?_ _) | (with_reducible refine Below.drew ?_) | (with_reducible refine below_drewN ?_ _) | (focus (first | (simp; done) | omega | (simp; omega))))); done))) (b9.mono (by have := Bw.out.size; first | omega | (simp; omega)))
        clear b9
        go_wp2_with fail
        go_ret2
        first | exact ⟨rfl, B9⟩ | exact B9
      · have hrs : res = -(m : Int) := by have := Hr2.out; simpa using this
        obtain ⟨b3, hb3⟩ : ∃ b3, b3 = decide (m = 0) := ⟨_, rfl⟩
        have TL : Hid (∀ w, Calls Try.prog 72 #[.agg (NC m (!b3))] w fun e w' => e = .returned (.tuple #[.int .i64 (tv res), .int .i64 (te res)]) ∧ Below w.heap.size w w') := by
          intro w; rw [hrs]
          have := told_c (-(m : Int)) (by have := hmb.out; omega) w
          unfold NZ at this
          have e1 : decide (-(m : Int) < 0) = !b3 := by rw [hb3]; by_cases h : m = 0 <;> simp [h] <;> omega
          rw [e1, Int.natAbs_neg, Int.natAbs_natCast] at this
          exact this
        have Hb3 := Lib.hid hb3
        clear hrs Hr2 hb3
        go_wp2_with (first | ((with_reducible apply load83); rfl; rfl; rfl; (focus ((repeat' (first | (with_reducible assumption) | ((with_reducible refine heap_last ?_); (focus (first | (simp; done) | omega | (simp; omega)))) | ((with_reducible refine heap_prev ?_ ?_); (focus (first | (simp; done) | omega | (simp; omega)))) | (with_reducible apply sign_heap) | (with_reducible apply row_heap) | (with_reducible apply bit0_heap) | ((with_reducible refine sign_other ?_ ?_); (focus (first | (simp; done) | omega | (simp; omega)))) | ((with_reducible refine row_other ?_ ?_); (focus (first | (simp; done) | omega | (simp; omega)))) | (with_reducible refine drew_heap ?_))); done)); skip) | (first | ((with_reducible apply store83_0); rfl; rfl; rfl; rfl; (focus (simp; done)); skip) | ((with_reducible apply store83_1); rfl; rfl; rfl; rfl; (focus (simp; done)); skip) | ((with_reducible apply store83_2); rfl; rfl; rfl; rfl; (focus (simp; done)); skip) | ((with_reducible apply store83_3); rfl; rfl; rfl; rfl; (focus (simp; done)); skip) | ((with_reducible apply store83_4); rfl; rfl; rfl; rfl; (focus (simp; done)); skip)))
        ((with_reducible refine (nought_c m false b3 (by have := hmb.out; omega) Hb3.out _).mono ?_); rintro e w8 ⟨rfl, b8⟩)
        have s8 := b8.size
        have Q8 : w8.heap[w5.heap.size]? = some (.cells (NC m false) 108 (0, 0)) := by rw [b8.block _ hlt]; exact Qw.out
        have B8 : Hid (Below w.heap.size w w8) := Bw.out.trans (b8.mono Bw.out.size)
        have fS8 : w8.frozen? ⟨w5.heap.size, 136, none⟩ = false := frozen_of_row _ _ _ _ _ Q8
        have cS8 : w8.cell? ⟨w5.heap.size, 136, none⟩ = some (.bool false) := cell_heap Q8 (NC_sign _ _)
        clear b8 fS cS hgw
        have z8 : w5.heap.size < w8.heap.size := by omega
        go_wp2_with (first | ((with_reducible apply load83); rfl; rfl; rfl; (focus ((repeat' (first | (with_reducible assumption) | ((with_reducible refine heap_last ?_); (focus (first | (simp; done) | omega | (simp; omega)))) | ((with_reducible refine heap_prev ?_ ?_); (focus (first | (simp; done) | omega | (simp; omega)))) | (with_reducible apply sign_heap) | (with_reducible apply row_heap) | (with_reducible apply bit0_heap) | ((with_reducible refine sign_other ?_ ?_); (focus (first | (simp; done) | omega | (simp; omega)))) | ((with_reducible refine row_other ?_ ?_); (focus (first | (simp; done) | omega | (simp; omega)))) | (with_reducible refine drew_heap ?_))); done)); skip) | (first | ((with_reducible apply store83_0); rfl; rfl; rfl; rfl; (focus (simp; done)); skip) | ((with_reducible apply store83_1); rfl; rfl; rfl; rfl; (focus (simp; done)); skip) | ((with_reducible apply store83_2); rfl; rfl; rfl; rfl; (focus (simp; done)); skip) | ((with_reducible apply store83_3); rfl; rfl; rfl; rfl; (focus (simp; done)); skip) | ((with_reducible apply store83_4); rfl; rfl; rfl; rfl; (focus (simp; done)); skip)))
        ((with_reducible refine (TL.out _).mono ?_); rintro e w9 ⟨rfl, b9⟩)
        have B9 : Below w.heap.size w w9 := Below.trans (by have := B8.out; (focus ((repeat' (first | (with_reducible exact Below.refl _ _) | (with_reducible assumption) | (with_reducible refine Below.alloc ?_ ?_ _) | (with_reducible refine Below.setCell ?_ ?_ _) | (with_reducible refine Below.row ?_ ?_ _) | (with_reducible refine Below.drew ?_) | (with_reducible refine below_drewN ?_ _) | (focus (first | (simp; done) | omega | (simp; omega))))); done))) (b9.mono (by have := B8.out.size; first | omega | (simp; omega)))
        clear b9
        go_wp2_with fail
        go_ret2
        first | exact ⟨rfl, B9⟩ | exact B9
end Go.Proofs.Ytdjbnnjcifgnlaa

namespace Go.Proofs.Ytdjbnnjcifgnlaa
open Go.RowKit

set_option maxHeartbeats 4000000 in
set_option maxRecDepth 100000 in
theorem refDiv_wrong (a b c round : Int) (hround : ¬ (round = 1 ∨ round = 2 ∨ round = 3)) (w : World) :
    Calls Try.prog 46 #[.int .i64 a, .int .i64 b, .int .i64 c, .int .i64 round] w fun e w' => e = .returned (.tuple #[.int .i64 0, .int .i64 2]) ∧ Below w.heap.size w w' := by
  by_cases h : round < 1
  · clear hround
    go_enter Try.func46, Try.ntmps46
    go_wp2_with fail
    go_ret2
    first | exact ⟨rfl, Below.refl _ _⟩ | exact Below.refl _ _
  · have h1 : 1 ≤ round := by omega
    have h3 : 3 < round := by omega
    clear hround h
    go_enter Try.func46, Try.ntmps46
    go_wp2_with fail
    go_ret2
    first | exact ⟨rfl, Below.refl _ _⟩ | exact Below.refl _ _

set_option maxHeartbeats 4000000 in
set_option maxRecDepth 100000 in
theorem refDiv_zero (a b round : Int) (h1 : 1 ≤ round) (h3 : round ≤ 3) (w : World) :
    Calls Try.prog 46 #[.int .i64 a, .int .i64 b, .int .i64 0, .int .i64 round] w fun e w' => e = .returned (.tuple #[.int .i64 0, .int .i64 11]) ∧ Below w.heap.size w w' := by
  go_enter Try.func46, Try.ntmps46
  go_wp2_with fail
  go_ret2
  first | exact ⟨rfl, Below.refl _ _⟩ | exact Below.refl _ _

theorem refDiv_any (a b c round : Int) (ha : InR a) (hb : InR b) (hc : InR c) (w : World) :
    Calls Try.prog 46 #[.int .i64 a, .int .i64 b, .int .i64 c, .int .i64 round] w fun e w' => e = .returned (.tuple #[.int .i64 (dv a b c round), .int .i64 (de a b c round)]) ∧ Below w.heap.size w w' := by
  by_cases hround : round = 1 ∨ round = 2 ∨ round = 3
  · have hnn : ¬ ¬ (round = 1 ∨ round = 2 ∨ round = 3) := fun h => h hround
    by_cases hc0 : c = 0
    · rw [dv, de, if_neg hnn, if_neg hnn, if_pos hc0, if_pos hc0, hc0]; exact refDiv_zero a b round (by omega) (by omega) w
    · rw [dv, de, if_neg hnn, if_neg hnn, if_neg hc0, if_neg hc0]
      have hm := mul_rng ha hb
      refine refDiv_core a b c round (a * b).natAbs c.natAbs _ _ (decide (a * b < 0)) (decide (c < 0)) (decide (a * b < 0) != decide (c < 0)) (decide ((a * b).natAbs / c.natAbs % 2 = 1)) _ (divR a b c round) ha hb hc hround (by simp [hc0]) ?_ rfl rfl (by omega) (by unfold InR at hc; omega) (by omega) rfl rfl (divR_eq a b c round _ _ rfl rfl) rfl ?_ w
      · cases decide (a * b < 0) <;> cases decide (c < 0) <;> rfl
      · show ∀ w, _
        intro w
        exact Times_z a b ha hb w
  · rw [dv, de, if_pos hround, if_pos hround]; exact refDiv_wrong a b c round hround w
end Go.Proofs.Ytdjbnnjcifgnlaa

namespace Go.Proofs.Ytdjbnnjcifgnlaa
open Go.RowKit Go.Lib
set_option linter.unusedVariables false

set_option maxHeartbeats 4000000 in
set_option maxRecDepth 100000 in
theorem rTrim_c (lot qty : Int) (hq : InR qty) (hl : InR lot) (w : World) :
    Calls Try.prog 45 #[.int .i64 lot, .int .i64 qty] w fun e w' => e = .returned (.int .i64 (trimN lot qty)) ∧ w = w' := by
  by_cases h1 : lot < 1
  · have h : Hid (trimN lot qty = 0) := by show _ = _; unfold trimN; rw [if_pos (.inl h1)]
    go_enter Try.func45, Try.ntmps45
    go_wp2_with fail
    go_ret
    rw [h.out]; exact ⟨rfl, rfl⟩
  by_cases h2 : qty < 1
  · have h : Hid (trimN lot qty = 0) := by show _ = _; unfold trimN; rw [if_pos (.inr h2)]
    go_enter Try.func45, Try.ntmps45
    go_wp2_with fail
    go_ret
    rw [h.out]; exact ⟨rfl, rfl⟩
  have ht := trim_bd (lot := lot) (qty := qty) (by omega) (by omega)
  obtain ⟨t, htt⟩ : ∃ t, t = trimN lot qty := ⟨_, rfl⟩
  rw [← htt] at ht ⊢
  obtain ⟨t0, t1, _, _, t4⟩ := ht
  have H5 : Hid (qty - qty % lot = t) := t4.symm
  have hq2 : qty / lot ≤ qty := Int.ediv_le_self _ (by omega)
  have hq3 : 0 ≤ qty / lot := Int.ediv_nonneg (by omega) (by omega)
  have g1 : 1 ≤ lot := by omega
  have g3 : 1 ≤ qty := by omega
  have g5 : (lot == 0) = false := by simp; omega
  have g6 : 0 ≤ qty := by omega
  have g7 : qty ≤ 9223372036854775807 := hq.2
  have g8 : lot ≤ 9223372036854775807 := hl.2
  have e1 : IntKind.i64.wrap (qty / lot * lot) = qty - qty % lot := by
    have hm := Int.mul_ediv_add_emod qty lot
    rw [Int.mul_comm] at hm
    have h0 := H5.out
    generalize qty / lot * lot = y at *
    generalize qty % lot = z at *
    rw [IntKind.wrap_i64]; omega
  clear h1 h2 hq hl htt t4
  go_enter Try.func45, Try.ntmps45
  go_wp2_with fail
  go_ret
  refine ⟨?_, rfl⟩
  show Ending.returned (Value.int IntKind.i64 (qty - qty % lot)) = _
  rw [H5.out]

set_option maxHeartbeats 4000000 in
set_option maxRecDepth 100000 in
theorem rTotal_c (A : Option Addr) (n c : Nat) (L : List Od) (lot : Int) (hlot : InR lot) (w : World) (H : Ods w A n L) (hn : n ≤ 1000) :
    Calls Try.prog 44 #[.slice A n c, .int .i64 lot] w fun e w' => e = .returned (.int .i64 (totN (qs L) lot)) ∧ w = w' := by
  have HO : Aside (Ods w A n L) := H
  have HLn := Lib.hid H.1
  clear H
  obtain ⟨T, hT⟩ : ∃ T, T = totN (qs L) lot := ⟨_, rfl⟩
  rw [← hT]
  have HT := Lib.hid hT
  clear hT
  by_cases h1 : lot < 1
  · have h : Hid (T = 0) := Lib.hid (HT.out.trans (if_pos (.inl h1)))
    clear HT
    go_enter Try.func44, Try.ntmps44
    go_wp2_with fail
    go_ret
    rw [h.out]; exact ⟨rfl, rfl⟩
  by_cases h2 : 1099511627776 < lot
  · have h : Hid (T = 0) := Lib.hid (HT.out.trans (if_pos (.inr (.inl h2))))
    clear HT
    go_enter Try.func44, Try.ntmps44
    go_wp2_with fail
    go_ret
    rw [h.out]; exact ⟨rfl, rfl⟩
  by_cases h3 : 64 < n
  · have h : Hid (T = 0) := Lib.hid (HT.out.trans (if_pos (.inr (.inr (.inl (by rw [qs_len, HLn.out]; exact h3))))))
    clear HT
    have h3I : (64 : Int) < (n : Int) := by omega
    go_enter Try.func44, Try.ntmps44
    go_wp2_with fail
    go_ret
    rw [h.out]; exact ⟨rfl, rfl⟩
  have g1 : 1 ≤ lot := by omega
  have g2 : lot ≤ 1099511627776 := by omega
  have g3 : ¬ (64 : Int) < (n : Int) := by omega
  have g4 : n ≤ 64 := by omega
  clear h1 h2 h3
  go_enter Try.func44, Try.ntmps44
  go_wp2_with fail
  go_loopg [5, 6] n (fun kx s5 s21 wr => ∃ k : Nat, s21 = .int .i64 k ∧ k ≤ n ∧ n - k ≤ kx ∧ s5 = .int .i64 (sumT lot ((qs L).take k)) ∧ Hid (OkQ ((qs L).take k)) ∧ wr = w)
  case atStart => exact ⟨0, rfl, by omega, by omega, rfl, Lib.hid (fun q h => by simp at h), rfl⟩
  case round =>
    obtain ⟨k, rfl, hk, hkx, rfl, hok, rfl⟩ := hrel
    by_cases hlt : k < n
    · have hltI : (k : Int) < (n : Int) := by omega
      have h1 := HO.out.2.2.2
      rcases h1 with h1 | ⟨b, off, rfl, _, hc⟩
      · omega
      have hx := hc k hlt
      clear hc
      have hxk := HO.out.2.2.1
      have HQ := Lib.hid (qs_get L k (by rw [HLn.out]; exact hlt))
      obtain ⟨x, ex⟩ : ∃ x, L[k]! = x := ⟨_, rfl⟩
      rw [ex] at hx HQ
      clear ex hxk
      obtain ⟨x0, x1, x2, x3, x4, x5⟩ := hx
      by_cases q1 : x.qty < 0
      · have h : Hid (T = 0) := Lib.hid (HT.out.trans (totN_bad (k := k) (by rw [qs_len, HLn.out]; exact hlt) (by rw [HQ.out]; omega)))
        clear hok HT HQ
        go_wp2_with fail
        go_ret
        rw [h.out]; exact ⟨rfl, rfl⟩
      by_cases q2 : 1099511627776 < x.qty
      · have h : Hid (T = 0) := Lib.hid (HT.out.trans (totN_bad (k := k) (by rw [qs_len, HLn.out]; exact hlt) (by rw [HQ.out]; omega)))
        clear hok HT HQ
        go_wp2_with fail
        go_ret
        rw [h.out]; exact ⟨rfl, rfl⟩
      have q3 : 0 ≤ x.qty := by omega
      have q4 : x.qty ≤ 1099511627776 := by omega
      have hst := sumT_step (lot := lot) (Q := qs L) (k := k) g1 (by rw [qs_len, HLn.out]; exact hlt) (by rw [qs_len, HLn.out]; exact g4) hok.out (by rw [HQ.out]; exact ⟨q3, q4⟩)
      rw [HQ.out] at hst
      obtain ⟨⟨s1, s2⟩, ⟨t1, t2⟩, hs⟩ := hst
      have hok2 : Hid (OkQ ((qs L).take (k + 1))) := Lib.hid (okQ_snoc hok.out (by rw [qs_len, HLn.out]; exact hlt) (by rw [HQ.out]; exact ⟨q3, q4⟩))
      have HTr : Hid (∀ w, Calls Try.prog 45 #[.int .i64 lot, .int .i64 x.qty] w fun e w' => e = .returned (.int .i64 (trimN lot x.qty)) ∧ w = w') := Lib.hid (fun w => rTrim_c lot x.qty ⟨by omega, by omega⟩ hlot w)
      generalize sumT lot ((qs L).take k) = S at *
      generalize trimN lot x.qty = t at *
      have HS := Lib.hid hs
      clear hok HQ hs hlot
      go_wp2_with ((with_reducible refine (HTr.out _).mono ?_); rintro e w' ⟨rfl, rfl⟩)
      go_roundg (n - (k + 1))
      case measure => omega
      case rel => exact ⟨k + 1, by go_num, by omega, by omega, by rw [HS.out], hok2, rfl⟩
    · have hltI : ¬ (k : Int) < (n : Int) := by omega
      obtain rfl : k = n := by omega
      have h : Hid (T = sumT lot ((qs L).take k)) := by
        have e : (qs L).take k = qs L := List.take_of_length_le (by rw [qs_len, HLn.out]; exact Nat.le_refl _)
        have ho := hok.out
        rw [e] at ho ⊢
        exact Lib.hid (HT.out.trans (totN_good g1 g2 (by rw [qs_len, HLn.out]; exact g4) ho))
      generalize sumT lot ((qs L).take k) = S at *
      clear hok HT
      go_wp2_with fail
      go_ret
      rw [h.out]; exact ⟨rfl, rfl⟩
end Go.Proofs.Ytdjbnnjcifgnlaa

namespace Go.Proofs.Ytdjbnnjcifgnlaa
open Go.RowKit Go.Lib
set_option linter.unusedVariables false

set_option maxHeartbeats 4000000 in
set_option maxRecDepth 100000 in
theorem rShare_no (mode : Int) (A : Option Addr) (n c : Nat) (L : List Od) (qty lot : Int) (hlot : InR lot) (w : World) (HO : Ods w A n L) (hn : n ≤ 1000) (hno : NoSh mode (qs L) qty lot) :
    Calls Try.prog 29 #[.int .i64 mode, .slice A n c, .int .i64 qty, .int .i64 lot] w fun e w' => e = .returned (.slice none 0 0) ∧ Below w.heap.size w w' := by
  obtain ⟨T, hT⟩ : ∃ T, T = totN (qs L) lot := ⟨_, rfl⟩
  have HTot : Hid (Calls Try.prog 44 #[.slice A n c, .int .i64 lot] w fun e w' => e = .returned (.int .i64 T) ∧ w = w') := Lib.hid (by rw [hT]; exact rTotal_c A n c L lot hlot w HO hn)
  unfold NoSh at hno
  rw [← hT] at hno
  clear HO hlot hT
  by_cases m1 : mode < 1
  · have m2 : decide (mode < 1) = true := decide_eq_true m1
    clear hno
    go_enter Try.func29, Try.ntmps29
    go_wp2_with ((with_reducible refine HTot.out.mono ?_); rintro e w2 ⟨rfl, rfl⟩)
    go_ret
    exact ⟨rfl, Below.refl _ _⟩
  have m2 : decide (mode < 1) = false := decide_eq_false m1
  by_cases m3 : 2 < mode
  · have m4 : decide (2 < mode) = true := decide_eq_true m3
    clear hno
    go_enter Try.func29, Try.ntmps29
    go_wp2_with ((with_reducible refine HTot.out.mono ?_); rintro e w2 ⟨rfl, rfl⟩)
    go_ret
    exact ⟨rfl, Below.refl _ _⟩
  have m4 : decide (2 < mode) = false := decide_eq_false m3
  by_cases z : T = 0
  · subst z; clear hno
    go_enter Try.func29, Try.ntmps29
    go_wp2_with ((with_reducible refine HTot.out.mono ?_); rintro e w2 ⟨rfl, rfl⟩)
    go_ret
    exact ⟨rfl, Below.refl _ _⟩
  have z1 : (T == 0) = false := by simp [z]
  by_cases q1 : qty < 1
  · have q2 : decide (qty < 1) = true := decide_eq_true q1
    clear hno z
    go_enter Try.func29, Try.ntmps29
    go_wp2_with ((with_reducible refine HTot.out.mono ?_); rintro e w2 ⟨rfl, rfl⟩)
    go_ret
    exact ⟨rfl, Below.refl _ _⟩
  have q2 : decide (qty < 1) = false := decide_eq_false q1
  have q3 : 4611686018427387904 < qty := by omega
  have q4 : decide (4611686018427387904 < qty) = true := decide_eq_true q3
  clear hno z
  go_enter Try.func29, Try.ntmps29
  go_wp2_with ((with_reducible refine HTot.out.mono ?_); rintro e w2 ⟨rfl, rfl⟩)
  go_ret
  exact ⟨rfl, Below.refl _ _⟩

set_option maxHeartbeats 4000000 in
set_option maxRecDepth 100000 in
theorem rShare_1 (A : Option Addr) (n c : Nat) (L : List Od) (qty lot : Int) (hlot : InR lot) (w : World) (HO : Ods w A n L) (hn : n ≤ 1000) (hok : ShOk (qs L) qty lot) :
    Calls Try.prog 29 #[.int .i64 1, .slice A n c, .int .i64 qty, .int .i64 lot] w (Shd w n (outN 1 (allN lot qty (sumT lot (qs L))) (sumT lot (qs L)) lot (qs L))) := by
  have hql : (qs L).length = n := by rw [qs_len]; exact HO.1
  obtain ⟨T, hT⟩ : ∃ T, T = sumT lot (qs L) := ⟨_, rfl⟩
  obtain ⟨tq, htq⟩ : ∃ t, t = trimN lot qty := ⟨_, rfl⟩
  obtain ⟨all, hall⟩ : ∃ a, a = allN lot qty T := ⟨_, rfl⟩
  have HTot : Hid (Calls Try.prog 44 #[.slice A n c, .int .i64 lot] w fun e w' => e = .returned (.int .i64 T) ∧ w = w') := Lib.hid (by rw [hT, ← hok.t]; exact rTotal_c A n c L lot hlot w HO hn)
  have hab := all_bd hok
  rw [← hT, ← hall] at hab
  have HTq : Hid (∀ w, Calls Try.prog 45 #[.int .i64 lot, .int .i64 qty] w fun e w' => e = .returned (.int .i64 tq) ∧ w = w') := Lib.hid (fun w => by rw [htq]; exact rTrim_c lot qty ⟨by have := hok.y1; omega, by have := hok.y2; omega⟩ hlot w)
  have eall : min tq T = all := by rw [hall, htq]; rfl
  have HOK : Hid (ShOk (qs L) qty lot) := Lib.hid hok
  have HQ : Hid (T = sumT lot (qs L) ∧ all = allN lot qty T ∧ (qs L).length = n) := Lib.hid ⟨hT, hall, hql⟩
  have h64 : n ≤ 64 := by have := hok.n; omega
  have hz1 : (T == 0) = false := by have := hok.t1; simp; omega
  have hz2 : decide (qty < 1) = false := decide_eq_false (by have := hok.y1; omega)
  have hz3 : decide (4611686018427387904 < qty) = false := decide_eq_false (by have := hok.y2; omega)
  have hT2 : 0 < T ∧ T ≤ 70368744177664 := by rw [hT]; exact ⟨hok.t1, hok.t2⟩
  have HOd : Aside (Ods w A n L) := HO
  rw [← hT, ← hall]
  have hmk := run_make_row' (P := Try.prog) 31 2 (.int .i64 0) 8 Try.underlying31 info_i64 rfl .i64 .i64 n (by omega) (by omega)
  have R0 : Hid ((w.alloc (.cells (madeCells #[.int .i64 0] n) 2)).rowIs w.heap.size 2 n (fun _ => .int .i64 0)) := Lib.hid (World.rowIs_made w (.int .i64 0) n _)
  have B0 : Hid (Below w.heap.size w (w.alloc (.cells (madeCells #[.int .i64 0] n) 2))) := Lib.hid ((Below.refl _ _).alloc (Nat.le_refl _) _)
  clear hT htq hall hql hok HO
  by_cases hsw : T < tq
  · have eT : T = all := by rw [← eall, Int.min_eq_right (by omega)]
    clear eall
    subst eT
    have hswd : decide (T < tq) = true := decide_eq_true hsw
    clear hsw
    go_enter Try.func29, Try.ntmps29
    go_wp2_with (first | ((with_reducible refine HTot.out.mono ?_); rintro e w2 ⟨rfl, rfl⟩) | ((with_reducible refine (HTq.out _).mono ?_); rintro e w2 ⟨rfl, rfl⟩))
    generalize w.alloc (.cells (madeCells #[.int .i64 0] n) 2) = w0 at R0 B0 ⊢
    clear HTot HTq hmk hz1 hz2 hz3
    have HRP0 : Hid (w0.rowIs w.heap.size 2 n (fun j => .int .i64 (p1 1 T T lot ((qs L).getD j 0)))) := Lib.hid (R0.out.congr (fun j hj => by unfold p1; rw [if_neg (by omega)]))
    clear R0
    go_loopg [13] 1 (fun kx s13 wr => s13 = .int .i64 0 ∧ wr = w0)
    case atStart => exact ⟨rfl, rfl⟩
    case round =>
    obtain ⟨rfl, rfl⟩ := hrel
    obtain ⟨w1, ew1⟩ : ∃ w1, w1 = wr := ⟨_, rfl⟩
    rw [← ew1] at HRP0 B0 ⊢
    have HRP := HRP0
    clear HRP0 ew1
    have HR1 : Hid (w1.rowIs w.heap.size 2 n (fun j => .int .i64 (p1 1 T T lot ((qs L).getD j 0)))) := HRP
    clear HRP
    go_wp2_with fail
    go_loopg [10, 16] n (fun kx s10 s16 wr => ∃ k : Nat, s16 = .int .i64 k ∧ k ≤ n ∧ n - k ≤ kx ∧ s10 = .int .i64 (lef1 1 T T lot (qs L) k) ∧ wr = w1)
    case atStart => exact ⟨0, rfl, by omega, by omega, rfl, rfl⟩
    case round =>
      obtain ⟨k, rfl, hk, hkx, rfl, rfl⟩ := hrel
      have haT : T ≤ sumT lot (qs L) := by rw [← HQ.out.1]; exact hab.2
      have h0T : 0 < sumT lot (qs L) := by rw [← HQ.out.1]; exact hT2.1
      by_cases hlt : k < n
      · have hltI : (k : Int) < (n : Int) := by omega
        have hk0 : (0 : Int) ≤ (k : Int) := by omega
        have hf := p1_fits (mode := 1) (all := T) HOK.out.l1 HOK.out.q hab.1 haT h0T k (by rw [HQ.out.2.2]; exact hk)
        rw [← HQ.out.1] at hf
        obtain ⟨⟨f1, f2, _⟩, f3⟩ := hf
        obtain ⟨f4, f5, _, _⟩ := f3 (by rw [HQ.out.2.2]; exact hlt)
        clear f3 haT h0T
        have c1 := HR1.out.cell hlt
        have HST := Lib.hid (show lef1 1 T T lot (qs L) (k + 1) = lef1 1 T T lot (qs L) k - p1 1 T T lot ((qs L).getD k 0) from rfl)
        generalize lef1 1 T T lot (qs L) k = S at *
        generalize p1 1 T T lot ((qs L).getD k 0) = p at *
        go_wp2_with fail
        go_roundg (n - (k + 1))
        case measure => omega
        case rel => exact ⟨k + 1, by go_num, by omega, by omega, by rw [HST.out], rfl⟩
      · have hltI : ¬ (k : Int) < (n : Int) := by omega
        have ekn : k = n := by omega
        have HR3 : Hid (wr.rowIs w.heap.size 2 n (fun j => .int .i64 (if j < 0 then outN 1 T T lot (qs L) j else p1 1 T T lot ((qs L).getD j 0)))) := Lib.hid (HR1.out.congr (fun j hj => by rw [if_neg (by omega)]))
        have HL : Hid (lef1 1 T T lot (qs L) k = lef2 1 T T lot (qs L) 0) := Lib.hid (by show _ = lef1 1 T T lot (qs L) (qs L).length; rw [HQ.out.2.2, ekn])
        rw [HL.out]
        clear HR1 hlt ekn haT h0T hkx
        go_wp2_with fail
        go_loopg [10, 17] n (fun kx s10 s17 wr => ∃ k : Nat, s17 = .int .i64 k ∧ k ≤ n ∧ n - k ≤ kx ∧ s10 = .int .i64 (lef2 1 T T lot (qs L) k) ∧ Hid (wr.rowIs w.heap.size 2 n (fun j => .int .i64 (if j < k then outN 1 T T lot (qs L) j else p1 1 T T lot ((qs L).getD j 0)))) ∧ Hid (Below w.heap.size w wr))
        case atStart => exact ⟨0, rfl, by omega, by omega, rfl, HR3, B0⟩
        case round =>
          clear HR3 B0
          obtain ⟨k, rfl, hk, hkx, rfl, HR, HB⟩ := hrel
          by_cases hlt : k < n
          · have hltI : (k : Int) < (n : Int) := by omega
            have hk0 : (0 : Int) ≤ (k : Int) := by omega
            have HO2 : Aside (Ods wr A n L) := HOd.out.below HB.out
            obtain ⟨b, off, rfl, hb, hc⟩ : ∃ b off, A = some ⟨b, off, none⟩ ∧ b < wr.heap.size ∧ ∀ i, i < n → (L[i]!).at wr b (off + i * 6) := by
              rcases HO2.out.2.2.2 with h | h
              · omega
              · exact h
            have kq := (hc k hlt).2.2.2.2.1
            have hqi : InR L[k]!.qty := by
              have := HO2.out.2.2.1 L[k]! (by rw [getElem!_pos L k (by rw [HO2.out.1]; exact hlt)]; exact List.getElem_mem _)
              exact this.2.2.2.2.1
            have hqq := qs_get L k (by rw [HO2.out.1]; exact hlt)
            have hg := getD_ok HOK.out.q k
            have htr := trim_rng (lot := lot) HOK.out.l1 hg.1
            have haT : T ≤ sumT lot (qs L) := by rw [← HQ.out.1]; exact hab.2
            have h0T : 0 < sumT lot (qs L) := by rw [← HQ.out.1]; exact hT2.1
            have hp := p1_rng (mode := 1) (all := T) HOK.out.l1 HOK.out.q hab.1 haT h0T k (by rw [HQ.out.2.2]; exact hlt)
            have hf := lef2_rng (mode := 1) (all := T) HOK.out.l1 HOK.out.q hab.1 haT h0T k (by rw [HQ.out.2.2]; exact hk)
            rw [← HQ.out.1] at hp hf
            have HST := Lib.hid (show lef2 1 T T lot (qs L) (k + 1) = lef2 1 T T lot (qs L) k - min (lef2 1 T T lot (qs L) k) (trimN lot ((qs L).getD k 0) - p1 1 T T lot ((qs L).getD k 0)) from rfl)
            have HOU := Lib.hid (show outN 1 T T lot (qs L) k = p1 1 T T lot ((qs L).getD k 0) + min (lef2 1 T T lot (qs L) k) (trimN lot ((qs L).getD k 0) - p1 1 T T lot ((qs L).getD k 0)) from rfl)
            have c1 : wr.cell? ⟨w.heap.size, k, none⟩ = some (.int .i64 (p1 1 T T lot ((qs L).getD k 0))) := (HR.out.cell hlt).trans (by rw [if_neg (by omega)])
            have f5 := HR.out.frozen k
            have HTr : Hid (∀ w, Calls Try.prog 45 #[.int .i64 lot, .int .i64 L[k]!.qty] w fun e w' => e = .returned (.int .i64 (trimN lot L[k]!.qty)) ∧ w' = w) := Lib.hid (fun w => (rTrim_c lot _ hqi hlot w).mono fun _ _ h => ⟨h.1, h.2.symm⟩)
            rw [hqq] at hg htr hp HST HOU c1
            have hsz := hb
            clear hqi hqq hc HO2 haT h0T
            have HE1 : Hid (∀ j, j < n → (if j = k then Value.int .i64 (outN 1 T T lot (qs L) k) else .int .i64 (if j < k then outN 1 T T lot (qs L) j else p1 1 T T lot ((qs L).getD j 0))) = .int .i64 (if j < k + 1 then outN 1 T T lot (qs L) j else p1 1 T T lot ((qs L).getD j 0))) := Lib.hid (fun j hj => by
              by_cases e1 : j = k
              · subst e1; rw [if_pos rfl, if_pos (by omega)]
              · rw [if_neg e1]
                by_cases e2 : j < k
                · rw [if_pos e2, if_pos (by omega)]
                · rw [if_neg e2, if_neg (by omega)])
            obtain ⟨lf, hlf⟩ : ∃ x, x = lef2 1 T T lot (qs L) k := ⟨_, rfl⟩
            obtain ⟨o, ho⟩ : ∃ x, x = outN 1 T T lot (qs L) k := ⟨_, rfl⟩
            obtain ⟨p, hpp⟩ : ∃ x, x = p1 1 T T lot L[k]!.qty := ⟨_, rfl⟩
            rw [← hlf, ← hpp] at HST HOU
            rw [← ho] at HOU HE1
            rw [← hlf] at hf ⊢
            rw [← hpp] at hp c1
            have HLF := Lib.hid hlf
            clear hlf ho hpp
            generalize L[k]!.qty = q at *
            generalize trimN lot q = t at *
            obtain ⟨d, hd⟩ : ∃ d, min lf (t - p) = d := ⟨_, rfl⟩
            have hd2 : 0 ≤ d ∧ d ≤ lf ∧ d ≤ t - p := by omega
            rw [hd] at HST HOU
            have HNW : Hid (∀ nq, ((wr.drewN nq).setCell ⟨w.heap.size, k, none⟩ (.int .i64 (p + d))).rowIs w.heap.size 2 n (fun j => .int .i64 (if j < k + 1 then outN 1 T T lot (qs L) j else p1 1 T T lot ((qs L).getD j 0)))) := Lib.hid (fun nq => by
              have h : (wr.drewN nq).rowIs w.heap.size 2 n (fun j => .int .i64 (if j < k then outN 1 T T lot (qs L) j else p1 1 T T lot ((qs L).getD j 0))) := HR.out
              rw [← HOU.out]
              exact (h.set k _).congr HE1.out)
            have HBN : Hid (∀ nq, Below w.heap.size w ((wr.drewN nq).setCell ⟨w.heap.size, k, none⟩ (.int .i64 (p + d)))) := Lib.hid (fun nq => (below_drewN HB.out nq).setCell (Nat.le_refl _) _)
            clear HE1 HR HB
            go_wp2_with fail
            go_quiet (((with_reducible exact Calls.quiet_of_same (HTr.out _))))
            have HN1 := Lib.hid (HNW.out nq)
            have HN2 := Lib.hid (HBN.out nq)
            clear HNW HBN HTr
            clear hd
            go_wp2_with fail
            generalize (wr.drewN nq).setCell ⟨w.heap.size, k, none⟩ (.int .i64 (p + d)) = w5 at HN1 HN2 ⊢
            go_wp2_with fail
            go_roundg (n - (k + 1))
            case measure => omega
            case rel => exact ⟨k + 1, by go_num, by omega, by omega, by rw [HST.out], HN1, HN2⟩
          · have hltI : ¬ (k : Int) < (n : Int) := by omega
            have HE : Hid (Shd w n (outN 1 T T lot (qs L)) (.returned (.slice (some ⟨w.heap.size, 0, none⟩) n n)) wr) := Lib.hid ⟨_, rfl, Nat.le_refl _, HB.out, HR.out.congr (fun j hj => by
              show Value.int .i64 (if j < k then _ else _) = _
              rw [if_pos (by omega)])⟩
            clear HR HB
            go_wp2_with fail
            go_ret
            exact HE.out
  · have eT : all = tq := by rw [← eall, Int.min_eq_left (by omega)]
    clear eall
    subst eT
    have hswd : decide (T < all) = false := decide_eq_false hsw
    clear hsw
    go_enter Try.func29, Try.ntmps29
    go_wp2_with (first | ((with_reducible refine HTot.out.mono ?_); rintro e w2 ⟨rfl, rfl⟩) | ((with_reducible refine (HTq.out _).mono ?_); rintro e w2 ⟨rfl, rfl⟩))
    generalize w.alloc (.cells (madeCells #[.int .i64 0] n) 2) = w0 at R0 B0 ⊢
    clear HTot HTq hmk hz1 hz2 hz3
    have HRP0 : Hid (w0.rowIs w.heap.size 2 n (fun j => .int .i64 (p1 1 all T lot ((qs L).getD j 0)))) := Lib.hid (R0.out.congr (fun j hj => by unfold p1; rw [if_neg (by omega)]))
    clear R0
    go_loopg [13] 1 (fun kx s13 wr => s13 = .int .i64 0 ∧ wr = w0)
    case atStart => exact ⟨rfl, rfl⟩
    case round =>
    obtain ⟨rfl, rfl⟩ := hrel
    obtain ⟨w1, ew1⟩ : ∃ w1, w1 = wr := ⟨_, rfl⟩
    rw [← ew1] at HRP0 B0 ⊢
    have HRP := HRP0
    clear HRP0 ew1
    have HR1 : Hid (w1.rowIs w.heap.size 2 n (fun j => .int .i64 (p1 1 all T lot ((qs L).getD j 0)))) := HRP
    clear HRP
    go_wp2_with fail
    go_loopg [10, 16] n (fun kx s10 s16 wr => ∃ k : Nat, s16 = .int .i64 k ∧ k ≤ n ∧ n - k ≤ kx ∧ s10 = .int .i64 (lef1 1 all T lot (qs L) k) ∧ wr = w1)
    case atStart => exact ⟨0, rfl, by omega, by omega, rfl, rfl⟩
    case round =>
      obtain ⟨k, rfl, hk, hkx, rfl, rfl⟩ := hrel
      have haT : all ≤ sumT lot (qs L) := by rw [← HQ.out.1]; exact hab.2
      have h0T : 0 < sumT lot (qs L) := by rw [← HQ.out.1]; exact hT2.1
      by_cases hlt : k < n
      · have hltI : (k : Int) < (n : Int) := by omega
        have hk0 : (0 : Int) ≤ (k : Int) := by omega
        have hf := p1_fits (mode := 1) (all := all) HOK.out.l1 HOK.out.q hab.1 haT h0T k (by rw [HQ.out.2.2]; exact hk)
        rw [← HQ.out.1] at hf
        obtain ⟨⟨f1, f2, _⟩, f3⟩ := hf
        obtain ⟨f4, f5, _, _⟩ := f3 (by rw [HQ.out.2.2]; exact hlt)
        clear f3 haT h0T
        have c1 := HR1.out.cell hlt
        have HST := Lib.hid (show lef1 1 all T lot (qs L) (k + 1) = lef1 1 all T lot (qs L) k - p1 1 all T lot ((qs L).getD k 0) from rfl)
        generalize lef1 1 all T lot (qs L) k = S at *
        generalize p1 1 all T lot ((qs L).getD k 0) = p at *
        go_wp2_with fail
        go_roundg (n - (k + 1))
        case measure => omega
        case rel => exact ⟨k + 1, by go_num, by omega, by omega, by rw [HST.out], rfl⟩
      · have hltI : ¬ (k : Int) < (n : Int) := by omega
        have ekn : k = n := by omega
        have HR3 : Hid (wr.rowIs w.heap.size 2 n (fun j => .int .i64 (if j < 0 then outN 1 all T lot (qs L) j else p1 1 all T lot ((qs L).getD j 0)))) := Lib.hid (HR1.out.congr (fun j hj => by rw [if_neg (by omega)]))
        have HL : Hid (lef1 1 all T lot (qs L) k = lef2 1 all T lot (qs L) 0) := Lib.hid (by show _ = lef1 1 all T lot (qs L) (qs L).length; rw [HQ.out.2.2, ekn])
        rw [HL.out]
        clear HR1 hlt ekn haT h0T hkx
        go_wp2_with fail
        go_loopg [10, 17] n (fun kx s10 s17 wr => ∃ k : Nat, s17 = .int .i64 k ∧ k ≤ n ∧ n - k ≤ kx ∧ s10 = .int .i64 (lef2 1 all T lot (qs L) k) ∧ Hid (wr.rowIs w.heap.size 2 n (fun j => .int .i64 (if j < k then outN 1 all T lot (qs L) j else p1 1 all T lot ((qs L).getD j 0)))) ∧ Hid (Below w.heap.size w wr))
        case atStart => exact ⟨0, rfl, by omega, by omega, rfl, HR3, B0⟩
        case round =>
          clear HR3 B0
          obtain ⟨k, rfl, hk, hkx, rfl, HR, HB⟩ := hrel
          by_cases hlt : k < n
          · have hltI : (k : Int) < (n : Int) := by omega
            have hk0 : (0 : Int) ≤ (k : Int) := by omega
            have HO2 : Aside (Ods wr A n L) := HOd.out.below HB.out
            obtain ⟨b, off, rfl, hb, hc⟩ : ∃ b off, A = some ⟨b, off, none⟩ ∧ b < wr.heap.size ∧ ∀ i, i < n → (L[i]!).at wr b (off + i * 6) := by
              rcases HO2.out.2.2.2 with h | h
              · omega
              · exact h
            have kq := (hc k hlt).2.2.2.2.1
            have hqi : InR L[k]!.qty := by
              have := HO2.out.2.2.1 L[k]! (by rw [getElem!_pos L k (by rw [HO2.out.1]; exact hlt)]; exact List.getElem_mem _)
              exact this.2.2.2.2.1
            have hqq := qs_get L k (by rw [HO2.out.1]; exact hlt)
            have hg := getD_ok HOK.out.q k
            have htr := trim_rng (lot := lot) HOK.out.l1 hg.1
            have haT : all ≤ sumT lot (qs L) := by rw [← HQ.out.1]; exact hab.2
            have h0T : 0 < sumT lot (qs L) := by rw [← HQ.out.1]; exact hT2.1
            have hp := p1_rng (mode := 1) (all := all) HOK.out.l1 HOK.out.q hab.1 haT h0T k (by rw [HQ.out.2.2]; exact hlt)
            have hf := lef2_rng (mode := 1) (all := all) HOK.out.l1 HOK.out.q hab.1 haT h0T k (by rw [HQ.out.2.2]; exact hk)
            rw [← HQ.out.1] at hp hf
            have HST := Lib.hid (show lef2 1 all T lot (qs L) (k + 1) = lef2 1 all T lot (qs L) k - min (lef2 1 all T lot (qs L) k) (trimN lot ((qs L).getD k 0) - p1 1 all T lot ((qs L).getD k 0)) from rfl)
            have HOU := Lib.hid (show outN 1 all T lot (qs L) k = p1 1 all T lot ((qs L).getD k 0) + min (lef2 1 all T lot (qs L) k) (trimN lot ((qs L).getD k 0) - p1 1 all T lot ((qs L).getD k 0)) from rfl)
            have c1 : wr.cell? ⟨w.heap.size, k, none⟩ = some (.int .i64 (p1 1 all T lot ((qs L).getD k 0))) := (HR.out.cell hlt).trans (by rw [if_neg (by omega)])
            have f5 := HR.out.frozen k
            have HTr : Hid (∀ w, Calls Try.prog 45 #[.int .i64 lot, .int .i64 L[k]!.qty] w fun e w' => e = .returned (.int .i64 (trimN lot L[k]!.qty)) ∧ w' = w) := Lib.hid (fun w => (rTrim_c lot _ hqi hlot w).mono fun _ _ h => ⟨h.1, h.2.symm⟩)
            rw [hqq] at hg htr hp HST HOU c1
            have hsz := hb
            clear hqi hqq hc HO2 haT h0T
            have HE1 : Hid (∀ j, j < n → (if j = k then Value.int .i64 (outN 1 all T lot (qs L) k) else .int .i64 (if j < k then outN 1 all T lot (qs L) j else p1 1 all T lot ((qs L).getD j 0))) = .int .i64 (if j < k + 1 then outN 1 all T lot (qs L) j else p1 1 all T lot ((qs L).getD j 0))) := Lib.hid (fun j hj => by
              by_cases e1 : j = k
              · subst e1; rw [if_pos rfl, if_pos (by omega)]
              · rw [if_neg e1]
                by_cases e2 : j < k
                · rw [if_pos e2, if_pos (by omega)]
                · rw [if_neg e2, if_neg (by omega)])
            obtain ⟨lf, hlf⟩ : ∃ x, x = lef2 1 all T lot (qs L) k := ⟨_, rfl⟩
            obtain ⟨o, ho⟩ : ∃ x, x = outN 1 all T lot (qs L) k := ⟨_, rfl⟩
            obtain ⟨p, hpp⟩ : ∃ x, x = p1 1 all T lot L[k]!.qty := ⟨_, rfl⟩
            rw [← hlf, ← hpp] at HST HOU
            rw [← ho] at HOU HE1
            rw [← hlf] at hf ⊢
            rw [← hpp] at hp c1
            have HLF := Lib.hid hlf
            clear hlf ho hpp
            generalize L[k]!.qty = q at *
            generalize trimN lot q = t at *
            obtain ⟨d, hd⟩ : ∃ d, min lf (t - p) = d := ⟨_, rfl⟩
            have hd2 : 0 ≤ d ∧ d ≤ lf ∧ d ≤ t - p := by omega
            rw [hd] at HST HOU
            have HNW : Hid (∀ nq, ((wr.drewN nq).setCell ⟨w.heap.size, k, none⟩ (.int .i64 (p + d))).rowIs w.heap.size 2 n (fun j => .int .i64 (if j < k + 1 then outN 1 all T lot (qs L) j else p1 1 all T lot ((qs L).getD j 0)))) := Lib.hid (fun nq => by
              have h : (wr.drewN nq).rowIs w.heap.size 2 n (fun j => .int .i64 (if j < k then outN 1 all T lot (qs L) j else p1 1 all T lot ((qs L).getD j 0))) := HR.out
              rw [← HOU.out]
              exact (h.set k _).congr HE1.out)
            have HBN : Hid (∀ nq, Below w.heap.size w ((wr.drewN nq).setCell ⟨w.heap.size, k, none⟩ (.int .i64 (p + d)))) := Lib.hid (fun nq => (below_drewN HB.out nq).setCell (Nat.le_refl _) _)
            clear HE1 HR HB
            go_wp2_with fail
            go_quiet (((with_reducible exact Calls.quiet_of_same (HTr.out _))))
            have HN1 := Lib.hid (HNW.out nq)
            have HN2 := Lib.hid (HBN.out nq)
            clear HNW HBN HTr
            clear hd
            go_wp2_with fail
            generalize (wr.drewN nq).setCell ⟨w.heap.size, k, none⟩ (.int .i64 (p + d)) = w5 at HN1 HN2 ⊢
            go_wp2_with fail
            go_roundg (n - (k + 1))
            case measure => omega
            case rel => exact ⟨k + 1, by go_num, by omega, by omega, by rw [HST.out], HN1, HN2⟩
          · have hltI : ¬ (k : Int) < (n : Int) := by omega
            have HE : Hid (Shd w n (outN 1 all T lot (qs L)) (.returned (.slice (some ⟨w.heap.size, 0, none⟩) n n)) wr) := Lib.hid ⟨_, rfl, Nat.le_refl _, HB.out, HR.out.congr (fun j hj => by
              show Value.int .i64 (if j < k then _ else _) = _
              rw [if_pos (by omega)])⟩
            clear HR HB
            go_wp2_with fail
            go_ret
            exact HE.out

set_option maxHeartbeats 4000000 in
set_option maxRecDepth 100000 in
theorem rShare_2 (A : Option Addr) (n c : Nat) (L : List Od) (qty lot : Int) (hlot : InR lot) (w : World) (HO : Ods w A n L) (hn : n ≤ 1000) (hok : ShOk (qs L) qty lot) :
    Calls Try.prog 29 #[.int .i64 2, .slice A n c, .int .i64 qty, .int .i64 lot] w (Shd w n (outN 2 (allN lot qty (sumT lot (qs L))) (sumT lot (qs L)) lot (qs L))) := by
  have hql : (qs L).length = n := by rw [qs_len]; exact HO.1
  obtain ⟨T, hT⟩ : ∃ T, T = sumT lot (qs L) := ⟨_, rfl⟩
  obtain ⟨tq, htq⟩ : ∃ t, t = trimN lot qty := ⟨_, rfl⟩
  obtain ⟨all, hall⟩ : ∃ a, a = allN lot qty T := ⟨_, rfl⟩
  have HTot : Hid (Calls Try.prog 44 #[.slice A n c, .int .i64 lot] w fun e w' => e = .returned (.int .i64 T) ∧ w = w') := Lib.hid (by rw [hT, ← hok.t]; exact rTotal_c A n c L lot hlot w HO hn)
  have hab := all_bd hok
  rw [← hT, ← hall] at hab
  have HTq : Hid (∀ w, Calls Try.prog 45 #[.int .i64 lot, .int .i64 qty] w fun e w' => e = .returned (.int .i64 tq) ∧ w = w') := Lib.hid (fun w => by rw [htq]; exact rTrim_c lot qty ⟨by have := hok.y1; omega, by have := hok.y2; omega⟩ hlot w)
  have eall : min tq T = all := by rw [hall, htq]; rfl
  have HOK : Hid (ShOk (qs L) qty lot) := Lib.hid hok
  have HQ : Hid (T = sumT lot (qs L) ∧ all = allN lot qty T ∧ (qs L).length = n) := Lib.hid ⟨hT, hall, hql⟩
  have h64 : n ≤ 64 := by have := hok.n; omega
  have hz1 : (T == 0) = false := by have := hok.t1; simp; omega
  have hz2 : decide (qty < 1) = false := decide_eq_false (by have := hok.y1; omega)
  have hz3 : decide (4611686018427387904 < qty) = false := decide_eq_false (by have := hok.y2; omega)
  have hT2 : 0 < T ∧ T ≤ 70368744177664 := by rw [hT]; exact ⟨hok.t1, hok.t2⟩
  have HOd : Aside (Ods w A n L) := HO
  rw [← hT, ← hall]
  have hmk := run_make_row' (P := Try.prog) 31 2 (.int .i64 0) 8 Try.underlying31 info_i64 rfl .i64 .i64 n (by omega) (by omega)
  have R0 : Hid ((w.alloc (.cells (madeCells #[.int .i64 0] n) 2)).rowIs w.heap.size 2 n (fun _ => .int .i64 0)) := Lib.hid (World.rowIs_made w (.int .i64 0) n _)
  have B0 : Hid (Below w.heap.size w (w.alloc (.cells (madeCells #[.int .i64 0] n) 2))) := Lib.hid ((Below.refl _ _).alloc (Nat.le_refl _) _)
  clear hT htq hall hql hok HO
  by_cases hsw : T < tq
  · have eT : T = all := by rw [← eall, Int.min_eq_right (by omega)]
    clear eall
    subst eT
    have hswd : decide (T < tq) = true := decide_eq_true hsw
    clear hsw
    go_enter Try.func29, Try.ntmps29
    go_wp2_with (first | ((with_reducible refine HTot.out.mono ?_); rintro e w2 ⟨rfl, rfl⟩) | ((with_reducible refine (HTq.out _).mono ?_); rintro e w2 ⟨rfl, rfl⟩))
    generalize w.alloc (.cells (madeCells #[.int .i64 0] n) 2) = w0 at R0 B0 ⊢
    clear HTot HTq hmk hz1 hz2 hz3
    go_loopg [13] n (fun kx s13 wr => ∃ k : Nat, s13 = .int .i64 k ∧ k ≤ n ∧ n - k ≤ kx ∧ Hid (wr.rowIs w.heap.size 2 n (fun j => .int .i64 (if j < k then p1 2 T T lot ((qs L).getD j 0) else 0))) ∧ Hid (Below w.heap.size w wr))
    case atStart => exact ⟨0, rfl, by omega, by omega, Lib.hid (R0.out.congr (fun j hj => by rw [if_neg (by omega)])), B0⟩
    case round =>
    clear R0 B0
    obtain ⟨k, rfl, hk, hkx, HR, HB⟩ := hrel
    by_cases hlt : k < n
    · have hltI : (k : Int) < (n : Int) := by omega
      have hk0 : (0 : Int) ≤ (k : Int) := by omega
      have HO2 : Aside (Ods wr A n L) := HOd.out.below HB.out
      obtain ⟨b, off, rfl, hb, hc⟩ : ∃ b off, A = some ⟨b, off, none⟩ ∧ b < wr.heap.size ∧ ∀ i, i < n → (L[i]!).at wr b (off + i * 6) := by
        rcases HO2.out.2.2.2 with h | h
        · omega
        · exact h
      have kq := (hc k hlt).2.2.2.2.1
      have hqi : InR L[k]!.qty := by
        have := HO2.out.2.2.1 L[k]! (by rw [getElem!_pos L k (by rw [HO2.out.1]; exact hlt)]; exact List.getElem_mem _)
        exact this.2.2.2.2.1
      have hqq := qs_get L k (by rw [HO2.out.1]; exact hlt)
      obtain ⟨q, eq⟩ : ∃ q, q = L[k]!.qty := ⟨_, rfl⟩
      rw [← eq] at kq hqi hqq
      have hg := getD_ok HOK.out.q k
      rw [hqq] at hg
      obtain ⟨tt, ht⟩ : ∃ t, t = trimN lot q := ⟨_, rfl⟩
      have htr := trim_rng (lot := lot) HOK.out.l1 hg.1
      rw [← ht] at htr
      have hts := trim_le_sum HOK.out.l1 HOK.out.q k (by rw [HQ.out.2.2]; exact hlt)
      rw [hqq, ← ht, ← HQ.out.1] at hts
      have hdv := dv_part (a := T) (t := tt) (T := T) hab.1 htr.1 hT2.1 hts (by omega)
      obtain ⟨pd, hpd⟩ : ∃ p, p = T * tt / T := ⟨_, rfl⟩
      rw [← hpd] at hdv
      obtain ⟨hdv1, hdv2, hdv3, hdv4⟩ := hdv
      obtain ⟨pp, hpp⟩ : ∃ p, p = p1 2 T T lot ((qs L).getD k 0) := ⟨_, rfl⟩
      have hpe : pp = trimN lot pd := by rw [hpp, hqq, hpd, ht]; rfl
      have HTr : Hid (∀ w, Calls Try.prog 45 #[.int .i64 lot, .int .i64 q] w fun e w' => e = .returned (.int .i64 tt) ∧ w = w') := Lib.hid (fun w => by rw [ht]; exact rTrim_c lot q hqi hlot w)
      have HTr2 : Hid (∀ w, Calls Try.prog 45 #[.int .i64 lot, .int .i64 pd] w fun e w' => e = .returned (.int .i64 pp) ∧ w = w') := Lib.hid (fun w => by rw [hpe]; exact rTrim_c lot pd ⟨by omega, by omega⟩ hlot w)
      have HDv : Hid (∀ w, Calls Try.prog 46 #[.int .i64 T, .int .i64 tt, .int .i64 T, .int .i64 1] w fun e w' => e = .returned (.tuple #[.int .i64 pd, .int .i64 0]) ∧ Below w.heap.size w w') := Lib.hid (fun w => by
        have h := refDiv_any T tt T 1 ⟨by omega, by omega⟩ ⟨by omega, by omega⟩ ⟨by omega, by omega⟩ w
        rw [hdv1, hdv2] at h
        exact h)
      have HN : Hid (∀ w3, Below wr.heap.size wr w3 → (w3.setCell ⟨w.heap.size, k, none⟩ (.int .i64 pp)).rowIs w.heap.size 2 n (fun j => .int .i64 (if j < k + 1 then p1 2 T T lot ((qs L).getD j 0) else 0))) := Lib.hid (fun w3 h3 => by
        refine ((HR.out.of_block (h3.block _ HR.out.lt)).set k _).congr (fun j hj => ?_)
        by_cases e1 : j = k
        · subst e1; rw [if_pos rfl, if_pos (by omega), hpp]
        · rw [if_neg e1]
          by_cases e2 : j < k
          · rw [if_pos e2, if_pos (by omega)]
          · rw [if_neg e2, if_neg (by omega)])
      have HRf := Lib.hid (fun (w3 : World) (h3 : Below wr.heap.size wr w3) => (⟨((HR.out.of_block (h3.block _ HR.out.lt)).cell hlt), (HR.out.of_block (h3.block _ HR.out.lt)).frozen k⟩ : _ ∧ _))
      have hbl := HR.out.lt
      clear hc hqi hqq eq hg ht htr hts hpd hdv1 hdv2 hpp hpe HO2 HR
      go_wp2_with (first | ((with_reducible refine (HTr.out _).mono ?_); rintro e w' ⟨rfl, rfl⟩) | fail)
      ((with_reducible refine (HDv.out _).mono ?_); rintro e w3 ⟨rfl, b3⟩)
      obtain ⟨cc, ff⟩ := HRf.out w3 b3
      have HN1 := Lib.hid (HN.out w3 b3)
      have HN2 : Hid (Below w.heap.size w (w3.setCell ⟨w.heap.size, k, none⟩ (.int .i64 pp))) := Lib.hid ((HB.out.trans (b3.mono HB.out.size)).setCell (Nat.le_refl _) _)
      clear HN HRf HB HDv b3
      go_wp2_with (first | ((with_reducible refine (HTr2.out _).mono ?_); rintro e w' ⟨rfl, rfl⟩) | fail)
      generalize w3.setCell ⟨w.heap.size, k, none⟩ (.int .i64 pp) = w5 at HN1 HN2 ⊢
      go_roundg (n - (k + 1))
      case measure => omega
      case rel => exact ⟨k + 1, by go_num, by omega, by omega, HN1, HN2⟩
    have hltI : ¬ (k : Int) < (n : Int) := by omega
    obtain ⟨w1, ew1⟩ : ∃ w1, w1 = wr := ⟨_, rfl⟩
    rw [← ew1] at HR HB ⊢
    have HRP : Hid (w1.rowIs w.heap.size 2 n (fun j => .int .i64 (p1 2 T T lot ((qs L).getD j 0)))) := Lib.hid (HR.out.congr (fun j hj => by
      show Value.int .i64 (if j < k then _ else _) = _
      rw [if_pos (by omega)]))
    have B0 := HB
    clear HR HB ew1 hlt
    have HR1 : Hid (w1.rowIs w.heap.size 2 n (fun j => .int .i64 (p1 2 T T lot ((qs L).getD j 0)))) := HRP
    clear HRP
    go_wp2_with fail
    go_loopg [10, 16] n (fun kx s10 s16 wr => ∃ k : Nat, s16 = .int .i64 k ∧ k ≤ n ∧ n - k ≤ kx ∧ s10 = .int .i64 (lef1 2 T T lot (qs L) k) ∧ wr = w1)
    case atStart => exact ⟨0, rfl, by omega, by omega, rfl, rfl⟩
    case round =>
      obtain ⟨k, rfl, hk, hkx, rfl, rfl⟩ := hrel
      have haT : T ≤ sumT lot (qs L) := by rw [← HQ.out.1]; exact hab.2
      have h0T : 0 < sumT lot (qs L) := by rw [← HQ.out.1]; exact hT2.1
      by_cases hlt : k < n
      · have hltI : (k : Int) < (n : Int) := by omega
        have hk0 : (0 : Int) ≤ (k : Int) := by omega
        have hf := p1_fits (mode := 2) (all := T) HOK.out.l1 HOK.out.q hab.1 haT h0T k (by rw [HQ.out.2.2]; exact hk)
        rw [← HQ.out.1] at hf
        obtain ⟨⟨f1, f2, _⟩, f3⟩ := hf
        obtain ⟨f4, f5, _, _⟩ := f3 (by rw [HQ.out.2.2]; exact hlt)
        clear f3 haT h0T
        have c1 := HR1.out.cell hlt
        have HST := Lib.hid (show lef1 2 T T lot (qs L) (k + 1) = lef1 2 T T lot (qs L) k - p1 2 T T lot ((qs L).getD k 0) from rfl)
        generalize lef1 2 T T lot (qs L) k = S at *
        generalize p1 2 T T lot ((qs L).getD k 0) = p at *
        go_wp2_with fail
        go_roundg (n - (k + 1))
        case measure => omega
        case rel => exact ⟨k + 1, by go_num, by omega, by omega, by rw [HST.out], rfl⟩
      · have hltI : ¬ (k : Int) < (n : Int) := by omega
        have ekn : k = n := by omega
        have HR3 : Hid (wr.rowIs w.heap.size 2 n (fun j => .int .i64 (if j < 0 then outN 2 T T lot (qs L) j else p1 2 T T lot ((qs L).getD j 0)))) := Lib.hid (HR1.out.congr (fun j hj => by rw [if_neg (by omega)]))
        have HL : Hid (lef1 2 T T lot (qs L) k = lef2 2 T T lot (qs L) 0) := Lib.hid (by show _ = lef1 2 T T lot (qs L) (qs L).length; rw [HQ.out.2.2, ekn])
        rw [HL.out]
        clear HR1 hlt ekn haT h0T hkx
        go_wp2_with fail
        go_loopg [10, 17] n (fun kx s10 s17 wr => ∃ k : Nat, s17 = .int .i64 k ∧ k ≤ n ∧ n - k ≤ kx ∧ s10 = .int .i64 (lef2 2 T T lot (qs L) k) ∧ Hid (wr.rowIs w.heap.size 2 n (fun j => .int .i64 (if j < k then outN 2 T T lot (qs L) j else p1 2 T T lot ((qs L).getD j 0)))) ∧ Hid (Below w.heap.size w wr))
        case atStart => exact ⟨0, rfl, by omega, by omega, rfl, HR3, B0⟩
        case round =>
          clear HR3 B0
          obtain ⟨k, rfl, hk, hkx, rfl, HR, HB⟩ := hrel
          by_cases hlt : k < n
          · have hltI : (k : Int) < (n : Int) := by omega
            have hk0 : (0 : Int) ≤ (k : Int) := by omega
            have HO2 : Aside (Ods wr A n L) := HOd.out.below HB.out
            obtain ⟨b, off, rfl, hb, hc⟩ : ∃ b off, A = some ⟨b, off, none⟩ ∧ b < wr.heap.size ∧ ∀ i, i < n → (L[i]!).at wr b (off + i * 6) := by
              rcases HO2.out.2.2.2 with h | h
              · omega
              · exact h
            have kq := (hc k hlt).2.2.2.2.1
            have hqi : InR L[k]!.qty := by
              have := HO2.out.2.2.1 L[k]! (by rw [getElem!_pos L k (by rw [HO2.out.1]; exact hlt)]; exact List.getElem_mem _)
              exact this.2.2.2.2.1
            have hqq := qs_get L k (by rw [HO2.out.1]; exact hlt)
            have hg := getD_ok HOK.out.q k
            have htr := trim_rng (lot := lot) HOK.out.l1 hg.1
            have haT : T ≤ sumT lot (qs L) := by rw [← HQ.out.1]; exact hab.2
            have h0T : 0 < sumT lot (qs L) := by rw [← HQ.out.1]; exact hT2.1
            have hp := p1_rng (mode := 2) (all := T) HOK.out.l1 HOK.out.q hab.1 haT h0T k (by rw [HQ.out.2.2]; exact hlt)
            have hf := lef2_rng (mode := 2) (all := T) HOK.out.l1 HOK.out.q hab.1 haT h0T k (by rw [HQ.out.2.2]; exact hk)
            rw [← HQ.out.1] at hp hf
            have HST := Lib.hid (show lef2 2 T T lot (qs L) (k + 1) = lef2 2 T T lot (qs L) k - min (lef2 2 T T lot (qs L) k) (trimN lot ((qs L).getD k 0) - p1 2 T T lot ((qs L).getD k 0)) from rfl)
            have HOU := Lib.hid (show outN 2 T T lot (qs L) k = p1 2 T T lot ((qs L).getD k 0) + min (lef2 2 T T lot (qs L) k) (trimN lot ((qs L).getD k 0) - p1 2 T T lot ((qs L).getD k 0)) from rfl)
            have c1 : wr.cell? ⟨w.heap.size, k, none⟩ = some (.int .i64 (p1 2 T T lot ((qs L).getD k 0))) := (HR.out.cell hlt).trans (by rw [if_neg (by omega)])
            have f5 := HR.out.frozen k
            have HTr : Hid (∀ w, Calls Try.prog 45 #[.int .i64 lot, .int .i64 L[k]!.qty] w fun e w' => e = .returned (.int .i64 (trimN lot L[k]!.qty)) ∧ w' = w) := Lib.hid (fun w => (rTrim_c lot _ hqi hlot w).mono fun _ _ h => ⟨h.1, h.2.symm⟩)
            rw [hqq] at hg htr hp HST HOU c1
            have hsz := hb
            clear hqi hqq hc HO2 haT h0T
            have HE1 : Hid (∀ j, j < n → (if j = k then Value.int .i64 (outN 2 T T lot (qs L) k) else .int .i64 (if j < k then outN 2 T T lot (qs L) j else p1 2 T T lot ((qs L).getD j 0))) = .int .i64 (if j < k + 1 then outN 2 T T lot (qs L) j else p1 2 T T lot ((qs L).getD j 0))) := Lib.hid (fun j hj => by
              by_cases e1 : j = k
              · subst e1; rw [if_pos rfl, if_pos (by omega)]
              · rw [if_neg e1]
                by_cases e2 : j < k
                · rw [if_pos e2, if_pos (by omega)]
                · rw [if_neg e2, if_neg (by omega)])
            obtain ⟨lf, hlf⟩ : ∃ x, x = lef2 2 T T lot (qs L) k := ⟨_, rfl⟩
            obtain ⟨o, ho⟩ : ∃ x, x = outN 2 T T lot (qs L) k := ⟨_, rfl⟩
            obtain ⟨p, hpp⟩ : ∃ x, x = p1 2 T T lot L[k]!.qty := ⟨_, rfl⟩
            rw [← hlf, ← hpp] at HST HOU
            rw [← ho] at HOU HE1
            rw [← hlf] at hf ⊢
            rw [← hpp] at hp c1
            have HLF := Lib.hid hlf
            clear hlf ho hpp
            generalize L[k]!.qty = q at *
            generalize trimN lot q = t at *
            obtain ⟨d, hd⟩ : ∃ d, min lf (t - p) = d := ⟨_, rfl⟩
            have hd2 : 0 ≤ d ∧ d ≤ lf ∧ d ≤ t - p := by omega
            rw [hd] at HST HOU
            have HNW : Hid (∀ nq, ((wr.drewN nq).setCell ⟨w.heap.size, k, none⟩ (.int .i64 (p + d))).rowIs w.heap.size 2 n (fun j => .int .i64 (if j < k + 1 then outN 2 T T lot (qs L) j else p1 2 T T lot ((qs L).getD j 0)))) := Lib.hid (fun nq => by
              have h : (wr.drewN nq).rowIs w.heap.size 2 n (fun j => .int .i64 (if j < k then outN 2 T T lot (qs L) j else p1 2 T T lot ((qs L).getD j 0))) := HR.out
              rw [← HOU.out]
              exact (h.set k _).congr HE1.out)
            have HBN : Hid (∀ nq, Below w.heap.size w ((wr.drewN nq).setCell ⟨w.heap.size, k, none⟩ (.int .i64 (p + d)))) := Lib.hid (fun nq => (below_drewN HB.out nq).setCell (Nat.le_refl _) _)
            clear HE1 HR HB
            go_wp2_with fail
            go_quiet (((with_reducible exact Calls.quiet_of_same (HTr.out _))))
            have HN1 := Lib.hid (HNW.out nq)
            have HN2 := Lib.hid (HBN.out nq)
            clear HNW HBN HTr
            clear hd
            go_wp2_with fail
            generalize (wr.drewN nq).setCell ⟨w.heap.size, k, none⟩ (.int .i64 (p + d)) = w5 at HN1 HN2 ⊢
            go_wp2_with fail
            go_roundg (n - (k + 1))
            case measure => omega
            case rel => exact ⟨k + 1, by go_num, by omega, by omega, by rw [HST.out], HN1, HN2⟩
          · have hltI : ¬ (k : Int) < (n : Int) := by omega
            have HE : Hid (Shd w n (outN 2 T T lot (qs L)) (.returned (.slice (some ⟨w.heap.size, 0, none⟩) n n)) wr) := Lib.hid ⟨_, rfl, Nat.le_refl _, HB.out, HR.out.congr (fun j hj => by
              show Value.int .i64 (if j < k then _ else _) = _
              rw [if_pos (by omega)])⟩
            clear HR HB
            go_wp2_with fail
            go_ret
            exact HE.out
  · have eT : all = tq := by rw [← eall, Int.min_eq_left (by omega)]
    clear eall
    subst eT
    have hswd : decide (T < all) = false := decide_eq_false hsw
    clear hsw
    go_enter Try.func29, Try.ntmps29
    go_wp2_with (first | ((with_reducible refine HTot.out.mono ?_); rintro e w2 ⟨rfl, rfl⟩) | ((with_reducible refine (HTq.out _).mono ?_); rintro e w2 ⟨rfl, rfl⟩))
    generalize w.alloc (.cells (madeCells #[.int .i64 0] n) 2) = w0 at R0 B0 ⊢
    clear HTot HTq hmk hz1 hz2 hz3
    go_loopg [13] n (fun kx s13 wr => ∃ k : Nat, s13 = .int .i64 k ∧ k ≤ n ∧ n - k ≤ kx ∧ Hid (wr.rowIs w.heap.size 2 n (fun j => .int .i64 (if j < k then p1 2 all T lot ((qs L).getD j 0) else 0))) ∧ Hid (Below w.heap.size w wr))
    case atStart => exact ⟨0, rfl, by omega, by omega, Lib.hid (R0.out.congr (fun j hj => by rw [if_neg (by omega)])), B0⟩
    case round =>
    clear R0 B0
    obtain ⟨k, rfl, hk, hkx, HR, HB⟩ := hrel
    by_cases hlt : k < n
    · have hltI : (k : Int) < (n : Int) := by omega
      have hk0 : (0 : Int) ≤ (k : Int) := by omega
      have HO2 : Aside (Ods wr A n L) := HOd.out.below HB.out
      obtain ⟨b, off, rfl, hb, hc⟩ : ∃ b off, A = some ⟨b, off, none⟩ ∧ b < wr.heap.size ∧ ∀ i, i < n → (L[i]!).at wr b (off + i * 6) := by
        rcases HO2.out.2.2.2 with h | h
        · omega
        · exact h
      have kq := (hc k hlt).2.2.2.2.1
      have hqi : InR L[k]!.qty := by
        have := HO2.out.2.2.1 L[k]! (by rw [getElem!_pos L k (by rw [HO2.out.1]; exact hlt)]; exact List.getElem_mem _)
        exact this.2.2.2.2.1
      have hqq := qs_get L k (by rw [HO2.out.1]; exact hlt)
      obtain ⟨q, eq⟩ : ∃ q, q = L[k]!.qty := ⟨_, rfl⟩
      rw [← eq] at kq hqi hqq
      have hg := getD_ok HOK.out.q k
      rw [hqq] at hg
      obtain ⟨tt, ht⟩ : ∃ t, t = trimN lot q := ⟨_, rfl⟩
      have htr := trim_rng (lot := lot) HOK.out.l1 hg.1
      rw [← ht] at htr
      have hts := trim_le_sum HOK.out.l1 HOK.out.q k (by rw [HQ.out.2.2]; exact hlt)
      rw [hqq, ← ht, ← HQ.out.1] at hts
      have hdv := dv_part (a := all) (t := tt) (T := T) hab.1 htr.1 hT2.1 hts (by omega)
      obtain ⟨pd, hpd⟩ : ∃ p, p = all * tt / T := ⟨_, rfl⟩
      rw [← hpd] at hdv
      obtain ⟨hdv1, hdv2, hdv3, hdv4⟩ := hdv
      obtain ⟨pp, hpp⟩ : ∃ p, p = p1 2 all T lot ((qs L).getD k 0) := ⟨_, rfl⟩
      have hpe : pp = trimN lot pd := by rw [hpp, hqq, hpd, ht]; rfl
      have HTr : Hid (∀ w, Calls Try.prog 45 #[.int .i64 lot, .int .i64 q] w fun e w' => e = .returned (.int .i64 tt) ∧ w = w') := Lib.hid (fun w => by rw [ht]; exact rTrim_c lot q hqi hlot w)
      have HTr2 : Hid (∀ w, Calls Try.prog 45 #[.int .i64 lot, .int .i64 pd] w fun e w' => e = .returned (.int .i64 pp) ∧ w = w') := Lib.hid (fun w => by rw [hpe]; exact rTrim_c lot pd ⟨by omega, by omega⟩ hlot w)
      have HDv : Hid (∀ w, Calls Try.prog 46 #[.int .i64 all, .int .i64 tt, .int .i64 T, .int .i64 1] w fun e w' => e = .returned (.tuple #[.int .i64 pd, .int .i64 0]) ∧ Below w.heap.size w w') := Lib.hid (fun w => by
        have h := refDiv_any all tt T 1 ⟨by omega, by omega⟩ ⟨by omega, by omega⟩ ⟨by omega, by omega⟩ w
        rw [hdv1, hdv2] at h
        exact h)
      have HN : Hid (∀ w3, Below wr.heap.size wr w3 → (w3.setCell ⟨w.heap.size, k, none⟩ (.int .i64 pp)).rowIs w.heap.size 2 n (fun j => .int .i64 (if j < k + 1 then p1 2 all T lot ((qs L).getD j 0) else 0))) := Lib.hid (fun w3 h3 => by
        refine ((HR.out.of_block (h3.block _ HR.out.lt)).set k _).congr (fun j hj => ?_)
        by_cases e1 : j = k
        · subst e1; rw [if_pos rfl, if_pos (by omega), hpp]
        · rw [if_neg e1]
          by_cases e2 : j < k
          · rw [if_pos e2, if_pos (by omega)]
          · rw [if_neg e2, if_neg (by omega)])
      have HRf := Lib.hid (fun (w3 : World) (h3 : Below wr.heap.size wr w3) => (⟨((HR.out.of_block (h3.block _ HR.out.lt)).cell hlt), (HR.out.of_block (h3.block _ HR.out.lt)).frozen k⟩ : _ ∧ _))
      have hbl := HR.out.lt
      clear hc hqi hqq eq hg ht htr hts hpd hdv1 hdv2 hpp hpe HO2 HR
      go_wp2_with (first | ((with_reducible refine (HTr.out _).mono ?_); rintro e w' ⟨rfl, rfl⟩) | fail)
      ((with_reducible refine (HDv.out _).mono ?_); rintro e w3 ⟨rfl, b3⟩)
      obtain ⟨cc, ff⟩ := HRf.out w3 b3
      have HN1 := Lib.hid (HN.out w3 b3)
      have HN2 : Hid (Below w.heap.size w (w3.setCell ⟨w.heap.size, k, none⟩ (.int .i64 pp))) := Lib.hid ((HB.out.trans (b3.mono HB.out.size)).setCell (Nat.le_refl _) _)
      clear HN HRf HB HDv b3
      go_wp2_with (first | ((with_reducible refine (HTr2.out _).mono ?_); rintro e w' ⟨rfl, rfl⟩) | fail)
      generalize w3.setCell ⟨w.heap.size, k, none⟩ (.int .i64 pp) = w5 at HN1 HN2 ⊢
      go_roundg (n - (k + 1))
      case measure => omega
      case rel => exact ⟨k + 1, by go_num, by omega, by omega, HN1, HN2⟩
    have hltI : ¬ (k : Int) < (n : Int) := by omega
    obtain ⟨w1, ew1⟩ : ∃ w1, w1 = wr := ⟨_, rfl⟩
    rw [← ew1] at HR HB ⊢
    have HRP : Hid (w1.rowIs w.heap.size 2 n (fun j => .int .i64 (p1 2 all T lot ((qs L).getD j 0)))) := Lib.hid (HR.out.congr (fun j hj => by
      show Value.int .i64 (if j < k then _ else _) = _
      rw [if_pos (by omega)]))
    have B0 := HB
    clear HR HB ew1 hlt
    have HR1 : Hid (w1.rowIs w.heap.size 2 n (fun j => .int .i64 (p1 2 all T lot ((qs L).getD j 0)))) := HRP
    clear HRP
    go_wp2_with fail
    go_loopg [10, 16] n (fun kx s10 s16 wr => ∃ k : Nat, s16 = .int .i64 k ∧ k ≤ n ∧ n - k ≤ kx ∧ s10 = .int .i64 (lef1 2 all T lot (qs L) k) ∧ wr = w1)
    case atStart => exact ⟨0, rfl, by omega, by omega, rfl, rfl⟩
    case round =>
      obtain ⟨k, rfl, hk, hkx, rfl, rfl⟩ := hrel
      have haT : all ≤ sumT lot (qs L) := by rw [← HQ.out.1]; exact hab.2
      have h0T : 0 < sumT lot (qs L) := by rw [← HQ.out.1]; exact hT2.1
      by_cases hlt : k < n
      · have hltI : (k : Int) < (n : Int) := by omega
        have hk0 : (0 : Int) ≤ (k : Int) := by omega
        have hf := p1_fits (mode := 2) (all := all) HOK.out.l1 HOK.out.q hab.1 haT h0T k (by rw [HQ.out.2.2]; exact hk)
        rw [← HQ.out.1] at hf
        obtain ⟨⟨f1, f2, _⟩, f3⟩ := hf
        obtain ⟨f4, f5, _, _⟩ := f3 (by rw [HQ.out.2.2]; exact hlt)
        clear f3 haT h0T
        have c1 := HR1.out.cell hlt
        have HST := Lib.hid (show lef1 2 all T lot (qs L) (k + 1) = lef1 2 all T lot (qs L) k - p1 2 all T lot ((qs L).getD k 0) from rfl)
        generalize lef1 2 all T lot (qs L) k = S at *
        generalize p1 2 all T lot ((qs L).getD k 0) = p at *
        go_wp2_with fail
        go_roundg (n - (k + 1))
        case measure => omega
        case rel => exact ⟨k + 1, by go_num, by omega, by omega, by rw [HST.out], rfl⟩
      · have hltI : ¬ (k : Int) < (n : Int) := by omega
        have ekn : k = n := by omega
        have HR3 : Hid (wr.rowIs w.heap.size 2 n (fun j => .int .i64 (if j < 0 then outN 2 all T lot (qs L) j else p1 2 all T lot ((qs L).getD j 0)))) := Lib.hid (HR1.out.congr (fun j hj => by rw [if_neg (by omega)]))
        have HL : Hid (lef1 2 all T lot (qs L) k = lef2 2 all T lot (qs L) 0) := Lib.hid (by show _ = lef1 2 all T lot (qs L) (qs L).length; rw [HQ.out.2.2, ekn])
        rw [HL.out]
        clear HR1 hlt ekn haT h0T hkx
        go_wp2_with fail
        go_loopg [10, 17] n (fun kx s10 s17 wr => ∃ k : Nat, s17 = .int .i64 k ∧ k ≤ n ∧ n - k ≤ kx ∧ s10 = .int .i64 (lef2 2 all T lot (qs L) k) ∧ Hid (wr.rowIs w.heap.size 2 n (fun j => .int .i64 (if j < k then outN 2 all T lot (qs L) j else p1 2 all T lot ((qs L).getD j 0)))) ∧ Hid (Below w.heap.size w wr))
        case atStart => exact ⟨0, rfl, by omega, by omega, rfl, HR3, B0⟩
        case round =>
          clear HR3 B0
          obtain ⟨k, rfl, hk, hkx, rfl, HR, HB⟩ := hrel
          by_cases hlt : k < n
          · have hltI : (k : Int) < (n : Int) := by omega
            have hk0 : (0 : Int) ≤ (k : Int) := by omega
            have HO2 : Aside (Ods wr A n L) := HOd.out.below HB.out
            obtain ⟨b, off, rfl, hb, hc⟩ : ∃ b off, A = some ⟨b, off, none⟩ ∧ b < wr.heap.size ∧ ∀ i, i < n → (L[i]!).at wr b (off + i * 6) := by
              rcases HO2.out.2.2.2 with h | h
              · omega
              · exact h
            have kq := (hc k hlt).2.2.2.2.1
            have hqi : InR L[k]!.qty := by
              have := HO2.out.2.2.1 L[k]! (by rw [getElem!_pos L k (by rw [HO2.out.1]; exact hlt)]; exact List.getElem_mem _)
              exact this.2.2.2.2.1
            have hqq := qs_get L k (by rw [HO2.out.1]; exact hlt)
            have hg := getD_ok HOK.out.q k
            have htr := trim_rng (lot := lot) HOK.out.l1 hg.1
            have haT : all ≤ sumT lot (qs L) := by rw [← HQ.out.1]; exact hab.2
            have h0T : 0 < sumT lot (qs L) := by rw [← HQ.out.1]; exact hT2.1
            have hp := p1_rng (mode := 2) (all := all) HOK.out.l1 HOK.out.q hab.1 haT h0T k (by rw [HQ.out.2.2]; exact hlt)
            have hf := lef2_rng (mode := 2) (all := all) HOK.out.l1 HOK.out.q hab.1 haT h0T k (by rw [HQ.out.2.2]; exact hk)
            rw [← HQ.out.1] at hp hf
            have HST := Lib.hid (show lef2 2 all T lot (qs L) (k + 1) = lef2 2 all T lot (qs L) k - min (lef2 2 all T lot (qs L) k) (trimN lot ((qs L).getD k 0) - p1 2 all T lot ((qs L).getD k 0)) from rfl)
            have HOU := Lib.hid (show outN 2 all T lot (qs L) k = p1 2 all T lot ((qs L).getD k 0) + min (lef2 2 all T lot (qs L) k) (trimN lot ((qs L).getD k 0) - p1 2 all T lot ((qs L).getD k 0)) from rfl)
            have c1 : wr.cell? ⟨w.heap.size, k, none⟩ = some (.int .i64 (p1 2 all T lot ((qs L).getD k 0))) := (HR.out.cell hlt).trans (by rw [if_neg (by omega)])
            have f5 := HR.out.frozen k
            have HTr : Hid (∀ w, Calls Try.prog 45 #[.int .i64 lot, .int .i64 L[k]!.qty] w fun e w' => e = .returned (.int .i64 (trimN lot L[k]!.qty)) ∧ w' = w) := Lib.hid (fun w => (rTrim_c lot _ hqi hlot w).mono fun _ _ h => ⟨h.1, h.2.symm⟩)
            rw [hqq] at hg htr hp HST HOU c1
            have hsz := hb
            clear hqi hqq hc HO2 haT h0T
            have HE1 : Hid (∀ j, j < n → (if j = k then Value.int .i64 (outN 2 all T lot (qs L) k) else .int .i64 (if j < k then outN 2 all T lot (qs L) j else p1 2 all T lot ((qs L).getD j 0))) = .int .i64 (if j < k + 1 then outN 2 all T lot (qs L) j else p1 2 all T lot ((qs L).getD j 0))) := Lib.hid (fun j hj => by
              by_cases e1 : j = k
              · subst e1; rw [if_pos rfl, if_pos (by omega)]
              · rw [if_neg e1]
                by_cases e2 : j < k
                · rw [if_pos e2, if_pos (by omega)]
                · rw [if_neg e2, if_neg (by omega)])
            obtain ⟨lf, hlf⟩ : ∃ x, x = lef2 2 all T lot (qs L) k := ⟨_, rfl⟩
            obtain ⟨o, ho⟩ : ∃ x, x = outN 2 all T lot (qs L) k := ⟨_, rfl⟩
            obtain ⟨p, hpp⟩ : ∃ x, x = p1 2 all T lot L[k]!.qty := ⟨_, rfl⟩
            rw [← hlf, ← hpp] at HST HOU
            rw [← ho] at HOU HE1
            rw [← hlf] at hf ⊢
            rw [← hpp] at hp c1
            have HLF := Lib.hid hlf
            clear hlf ho hpp
            generalize L[k]!.qty = q at *
            generalize trimN lot q = t at *
            obtain ⟨d, hd⟩ : ∃ d, min lf (t - p) = d := ⟨_, rfl⟩
            have hd2 : 0 ≤ d ∧ d ≤ lf ∧ d ≤ t - p := by omega
            rw [hd] at HST HOU
            have HNW : Hid (∀ nq, ((wr.drewN nq).setCell ⟨w.heap.size, k, none⟩ (.int .i64 (p + d))).rowIs w.heap.size 2 n (fun j => .int .i64 (if j < k + 1 then outN 2 all T lot (qs L) j else p1 2 all T lot ((qs L).getD j 0)))) := Lib.hid (fun nq => by
              have h : (wr.drewN nq).rowIs w.heap.size 2 n (fun j => .int .i64 (if j < k then outN 2 all T lot (qs L) j else p1 2 all T lot ((qs L).getD j 0))) := HR.out
              rw [← HOU.out]
              exact (h.set k _).congr HE1.out)
            have HBN : Hid (∀ nq, Below w.heap.size w ((wr.drewN nq).setCell ⟨w.heap.size, k, none⟩ (.int .i64 (p + d)))) := Lib.hid (fun nq => (below_drewN HB.out nq).setCell (Nat.le_refl _) _)
            clear HE1 HR HB
            go_wp2_with fail
            go_quiet (((with_reducible exact Calls.quiet_of_same (HTr.out _))))
            have HN1 := Lib.hid (HNW.out nq)
            have HN2 := Lib.hid (HBN.out nq)
            clear HNW HBN HTr
            clear hd
            go_wp2_with fail
            generalize (wr.drewN nq).setCell ⟨w.heap.size, k, none⟩ (.int .i64 (p + d)) = w5 at HN1 HN2 ⊢
            go_wp2_with fail
            go_roundg (n - (k + 1))
            case measure => omega
            case rel => exact ⟨k + 1, by go_num, by omega, by omega, by rw [HST.out], HN1, HN2⟩
          · have hltI : ¬ (k : Int) < (n : Int) := by omega
            have HE : Hid (Shd w n (outN 2 all T lot (qs L)) (.returned (.slice (some ⟨w.heap.size, 0, none⟩) n n)) wr) := Lib.hid ⟨_, rfl, Nat.le_refl _, HB.out, HR.out.congr (fun j hj => by
              show Value.int .i64 (if j < k then _ else _) = _
              rw [if_pos (by omega)])⟩
            clear HR HB
            go_wp2_with fail
            go_ret
            exact HE.out
end Go.Proofs.Ytdjbnnjcifgnlaa
