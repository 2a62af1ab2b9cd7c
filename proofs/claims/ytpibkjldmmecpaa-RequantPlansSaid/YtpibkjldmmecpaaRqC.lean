/- requant: the closure that parts orders; Plan. -/
import Derived.Test.YtpibkjldmmecpaaRqB
import Derived.Test.YtpibkjldmmecpaaRqD
namespace Go.Proofs.Ytpibkjldmmecpaa
open Go.RowKit Go.Sort Go.Lib Go.Shelf

set_option maxHeartbeats 4000000 in
set_option maxRecDepth 100000 in
theorem fits_c (x : Od) (r : Rul) (g : Nat) (w : World) (H : Tks w r.tkA r.tkL r.tkZ) (hg : w.heap[g]? = some (.cells (RC r) 26 (0, 0))) :
    Calls Try.prog 13 #[.agg (OC x), .pointer (some ⟨g, 0, none⟩)] w (Got w (.bool (fitN r.tkZ r.lot x))) := by
  have HW := Lib.hid (fun W (B : Below w.heap.size w W) => why_c x r W (H.below B))
  unfold fitN
  obtain ⟨z, hz⟩ : ∃ z, z = whyN r.tkZ r.lot x := ⟨_, rfl⟩
  rw [← hz] at HW ⊢
  have b0 : Below w.heap.size w (w.alloc (Obj.cells (OC x) 29)) := (Below.refl _ _).alloc (Nat.le_refl _) _
  have hs0 := b0.size
  obtain ⟨r0, r1, r2, r3, r4, r5, r6, r7, r8⟩ := rul_cells (bel_heap hg b0)
  have HB := Lib.hid b0
  clear hz H b0 hg
  go_enter Try.func13, Try.ntmps13
  go_wp2_with fail
  refine (HW.out _ HB.out).mono ?_
  rintro e w2 ⟨rfl, b2⟩
  have B2 := Lib.hid (HB.out.trans (b2.mono hs0))
  clear b2 HW HB r0 r1 r2 r3 r4 r5 r6 r7 r8
  go_wp2_with fail
  go_ret
  exact ⟨rfl, B2.out⟩

/-- Two rows, of what stays and of what goes. -/
def PlanIs (w : World) (L : List Od) (p : Od → Bool) (e : Ending) (w' : World) : Prop := ∃ A n c B m d, e = .returned (.tuple #[.slice A n c, .slice B m d]) ∧ Hid (Below w.heap.size w w' ∧ Ods w' A n (L.filter p) ∧ CapOk A n c ∧ Ods w' B m (sortL ltC (L.filter fun x => !p x)) ∧ CapOk B m d)

set_option maxHeartbeats 4000000 in
set_option maxRecDepth 1000000 in
theorem plan23_c (A : Option Addr) (n c : Nat) (L : List Od) (r : Rul) (w : World) (H : Ods w A n L) (hn : n ≤ 100) (HR : Tks w r.tkA r.tkL r.tkZ) :
    Calls Try.prog 6 #[.slice A n c, .agg (RC r)] w (PlanIs w L (fitN r.tkZ r.lot)) := by
  have mixed : Try.prog.follows .mixedOrders = true := by kernel_rfl
  obtain ⟨i0, hi0, hz0, hz1, hz2⟩ := info_parts info_od
  obtain ⟨p, hp⟩ : ∃ p, p = fitN r.tkZ r.lot := ⟨_, rfl⟩
  have HC := Lib.hid (fun (x : Od) W (B : Below w.heap.size w W) hg => fits_c x r w.heap.size W (HR.below B) hg)
  rw [← hp] at HC ⊢
  have HO : Aside (Ods w A n L) := H
  have HLn := Lib.hid H.1
  clear H hp HR
  go_enter Try.func6, Try.ntmps6
  go_wp2_with fail
  have f0 := heap_alloc_new w (Obj.cells (RC r) 26)
  have b0 : Below w.heap.size w (w.alloc (Obj.cells (RC r) 26)) := (Below.refl _ _).alloc (Nat.le_refl _) _
  generalize w.alloc (Obj.cells (RC r) 26) = w0 at f0 b0 ⊢
  have HD0 : Hid (Below w.heap.size w w0 ∧ w0.heap[w.heap.size]? = some (.cells (RC r) 26 (0, 0))) := ⟨b0, f0⟩
  clear f0 b0
  go_loopg [4, 12] n (fun kx v s12 wr => ∃ k q : Nat, s12 = .int .i64 k ∧ k ≤ n ∧ n - k ≤ kx ∧ q ≤ k ∧ wr.ownsRow (w.heap.size + 1) 29 6 v q (ol ((L.take k).filter p)) ∧ Hid (Below w.heap.size w wr ∧ wr.heap[w.heap.size]? = some (.cells (RC r) 26 (0, 0))))
  case atStart => exact ⟨0, 0, rfl, by omega, by omega, by omega, World.ownsRow_nil _ _ _ _, HD0⟩
  case round =>
    clear HD0
    obtain ⟨k, q, rfl, hk, hkx, hqk, hown, hd⟩ := hrel
    by_cases hlt : k < n
    · have hltI : (k : Int) < (n : Int) := by omega
      have h1 := (HO.out.below hd.out.1).2.2.2
      rcases h1 with h1 | ⟨b, off, rfl, hbw, hc⟩
      · omega
      have hx := hc k hlt
      clear hc
      have hkL : k < L.length := by rw [HLn.out]; exact hlt
      have HY := Lib.hid (fun h => filP_yes (L := L) (k := k) (p := p) hkL h)
      have HN := Lib.hid (fun h => filP_no (L := L) (k := k) (p := p) hkL h)
      obtain ⟨x, ex⟩ : ∃ x, L[k]! = x := ⟨_, rfl⟩
      rw [ex] at hx HN HY
      clear ex hkL
      obtain ⟨x0, x1, x2, x3, x4, x5⟩ := hx
      have hsz := hd.out.1.size
      have hw0 : w.heap.size < wr.heap.size := blk_lt hd.out.2
      have HCx := Lib.hid (fun W B hg => HC.out x W B hg)
      obtain ⟨px, hpx⟩ : ∃ px, px = p x := ⟨_, rfl⟩
      rw [← hpx] at HCx
      have HPX := Lib.hid hpx
      clear hpx
      go_wp2_with fail
      have f1 := heap_alloc_new wr (Obj.cells (OC x) 29)
      have bW : Below wr.heap.size wr (wr.alloc (Obj.cells (OC x) 29)) := (Below.refl _ _).alloc (Nat.le_refl _) _
      generalize wr.alloc (Obj.cells (OC x) 29) = w1 at f1 bW ⊢
      refine (HCx.out w1 (hd.out.1.trans (bW.mono hsz)) (bel_heap hd.out.2 bW)).mono ?_
      rintro e w2 ⟨rfl, b2⟩
      have bX : Below wr.heap.size wr w2 := bW.trans (b2.mono bW.size)
      obtain ⟨z0, z1, z2, z3, z4, z5⟩ := box6 (bel_heap f1 b2)
      have hown1 := own_fr (S := fun _ => False) hown (Fr.of_below bX) (fun _ _ h => h)
      have hd1 : Hid (Below w.heap.size w w2 ∧ w2.heap[w.heap.size]? = some (.cells (RC r) 26 (0, 0))) := ⟨hd.out.1.trans (bX.mono hsz), bel_heap hd.out.2 bX⟩
      have hs1 := hd1.out.1.size
      have hw1 : w.heap.size < w2.heap.size := blk_lt hd1.out.2
      clear hown hd bW b2 bX f1 x0 x1 x2 x3 x4 x5 hsz hw0 hbw HCx
      cases px with
      | true =>
        have E2 := Lib.hid (HY.out HPX.out.symm)
        clear HY HN HPX
        go_wp2_with (at_builtin; refine wpList_append_own _ rfl _ _ 22 rfl (w.heap.size + 1) 29 i0 (.agg (OC ⟨0, 0, 0, 0, 0, 0⟩)) 6 48 Try.underlying22 hi0 hz0 hz1 hz2 rfl (by decide) _ _ _ rfl (hown1.alloc _) ⟨w2.heap.size, 0, none⟩ 1 1 (encO x) rfl rfl ?c1 ?c2 ?c3 ?c4 ?c5 ?_)
        case c1 => exact six_newsT 29 w2 x
        case c2 => exact enc_one x
        case c3 => unfold maxLen; omega
        case c4 => omega
        case c5 => simp; omega
        intro v2 w3 hown2 hg2 _
        have hd2 : Hid (Below w.heap.size w w3 ∧ w3.heap[w.heap.size]? = some (.cells (RC r) 26 (0, 0))) := by
          refine ⟨Below.grown (hd1.out.1.alloc hs1 _) hg2 (by simp; omega) (fun k hk => by have := (hown1.lt k hk).1; omega), ?_⟩
          refine (hg2.block _ (by simp; omega) (fun e => ?_)).trans (hd_prev hw1 hd1.out.2)
          have := (hown1.lt _ e.symm).1
          omega
        rw [← ol_app, ← E2.out] at hown2
        clear hg2 hown1 hd1 z0 z1 z2 z3 z4 z5
        go_wp2_with fail
        go_roundg (n - (k + 1))
        case measure => omega
        case rel => exact ⟨k + 1, q + 1, by go_num, by omega, by omega, by omega, hown2, hd2⟩
      | false =>
        have E2 := HN.out HPX.out.symm
        rw [← E2] at hown1
        clear HY HN HPX E2 z0 z1 z2 z3 z4 z5
        go_wp2_with fail
        go_roundg (n - (k + 1))
        case measure => omega
        case rel => exact ⟨k + 1, q, by go_num, by omega, by omega, by omega, hown1, hd1⟩
    · have hltI : ¬ (k : Int) < (n : Int) := by omega
      obtain rfl : k = n := by omega
      rw [List.take_of_length_le (by rw [HLn.out]; exact Nat.le_refl _)] at hown
      obtain ⟨A', c', rfl, hc, ht⟩ := own_ods hown (by omega) (fun x hx => (HO.out.below hd.out.1).2.2.1 x ((List.mem_filter.1 hx).1))
      have HF : Hid (Below w.heap.size w wr ∧ Ods wr A' q (L.filter p) ∧ CapOk A' q c') := ⟨hd.out.1, ht, hc⟩
      have HRest := Lib.hid (rest_c p A A' k c q c' L wr (HO.out.below hd.out.1) ht hc (by omega))
      clear hown ht hd hc
      go_wp2_with fail
      refine HRest.out.mono ?_
      rintro e w1 ⟨v1, q1, rfl, HG⟩
      have hq1 : q1 ≤ k := by
        have h1 := HG.out.2.1
        rw [ol_len] at h1
        have h2 := List.length_filter_le (fun x => !p x) L
        rw [HLn.out] at h2
        omega
      obtain ⟨A2, c2, rfl, hc2, hS⟩ := sortRow_c HG.out.2 (by omega) HG.out.1.size (fun x hx => ((HO.out.below HF.out.1).below HG.out.1).2.2.1 x ((List.mem_filter.1 hx).1))
      have HSo := Lib.hid hS
      have HF1 : Hid (Below w.heap.size w w1 ∧ Ods w1 A' q (L.filter p) ∧ CapOk A' q c' ∧ wr.heap.size ≤ w1.heap.size) := ⟨HF.out.1.trans (HG.out.1.mono HF.out.1.size), HF.out.2.1.below HG.out.1, HF.out.2.2, HG.out.1.size⟩
      have HO1 : Hid (Ods wr A' q (L.filter p)) := HF.out.2.1
      have HGb := Lib.hid HG.out.1
      have HWs : Hid (Below w.heap.size w wr) := HF.out.1
      clear hS HG HRest HF
      go_wp2_with fail
      refine HSo.out.mono ?_
      rintro e w3 ⟨rfl, O3, b3⟩
      have b4 : Below wr.heap.size wr w3 := HGb.out.trans b3
      have HX : Hid (Below w.heap.size w w3 ∧ Ods w3 A' q (L.filter p) ∧ CapOk A' q c' ∧ Ods w3 A2 q1 (sortL ltC (L.filter fun x => !p x)) ∧ CapOk A2 q1 c2) := ⟨HWs.out.trans (b4.mono HWs.out.size), HO1.out.below b4, HF1.out.2.2.1, O3, hc2⟩
      clear O3 b3 b4 HSo HF1 HO1 HGb HWs
      go_wp2_with fail
      go_ret2
      exact ⟨_, _, _, _, _, _, rfl, HX.out⟩
end Go.Proofs.Ytpibkjldmmecpaa
