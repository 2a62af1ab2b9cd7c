/- requant: what is left of a row, but for those that stay (rest). -/
import Derived.Test.YtpibkjldmmecpaaRqS
import Derived.Test.YtpibkjldmmecpaaRqU
namespace Go.Proofs.Ytpibkjldmmecpaa
open Go.RowKit Go.Sort Go.Lib Go.Shelf

theorem eqlP (x y : Od) (w : World) : (binOp .eql 29 (.agg (OC x)) (.agg (OC y))).run Try.prog w = .ok (.bool (eqO x y)) w := by
  rw [run_eql_struct, eq_ordP]; rfl
/-- A row of the call's own. -/
def OwnIs (w : World) (L : List Od) (e : Ending) (w' : World) : Prop := ∃ v q, e = .returned v ∧ Hid (Below w.heap.size w w' ∧ w'.ownsRow w.heap.size 29 6 v q (ol L))
theorem box6 {w : World} {g : Nat} {x : Od} {T : TypeId} (h : w.heap[g]? = some (.cells (OC x) T (0, 0))) :
    w.cell? ⟨g, 0, none⟩ = some (.int .u64 x.id) ∧ w.cell? ⟨g, 1, none⟩ = some (.int .i64 x.acc) ∧ w.cell? ⟨g, 2, none⟩ = some (.int .i64 x.side) ∧ w.cell? ⟨g, 3, none⟩ = some (.int .i64 x.price) ∧ w.cell? ⟨g, 4, none⟩ = some (.int .i64 x.qty) ∧ w.cell? ⟨g, 5, none⟩ = some (.int .u64 x.seq) := by
  refine ⟨?_, ?_, ?_, ?_, ?_, ?_⟩ <;> (rw [cell_of_row _ _ _ _ _ _ h]; rfl)
theorem eqO_no {p : Od → Bool} {x y : Od} (hx : p x = false) (hy : p y = true) : eqO x y = false := by
  cases e : eqO x y with
  | false => rfl
  | true => rw [(eqO_iff x y).1 e, hy] at hx; cases hx

set_option maxHeartbeats 4000000 in
set_option maxRecDepth 1000000 in
theorem rest_c (p : Od → Bool) (A B : Option Addr) (n c m d : Nat) (L : List Od) (w : World) (H : Ods w A n L) (K : Ods w B m (L.filter p)) (hm : CapOk B m d) (hn : n ≤ 1000) :
    Calls Try.prog 14 #[.slice A n c, .slice B m d] w (OwnIs w (L.filter fun x => !p x)) := by
  have mixed : Try.prog.follows .mixedOrders = true := by kernel_rfl
  obtain ⟨i0, hi0, hz0, hz1, hz2⟩ := info_parts info_od
  have HO : Aside (Ods w A n L) := H
  have HK : Aside (Ods w B m (L.filter p)) := K
  have HLn := Lib.hid H.1
  clear H K
  go_enter Try.func14, Try.ntmps14
  go_wp2_with fail
  go_loopg [1, 5, 10] n (fun kx s1 v s10 wr => ∃ (k m' d' q : Nat) (B' : Option Addr), s10 = .int .i64 k ∧ s1 = .slice B' m' d' ∧ k ≤ n ∧ n - k ≤ kx ∧ q ≤ k ∧ m' ≤ d' ∧ Aside (Ods w B' m' ((L.drop k).filter p)) ∧ wr.ownsRow w.heap.size 29 6 v q (ol ((L.take k).filter fun x => !p x)) ∧ Hid (Below w.heap.size w wr))
  case atStart => exact ⟨0, m, d, 0, B, rfl, rfl, by omega, by omega, by omega, hm.1, HK, World.ownsRow_nil _ _ _ _, Below.refl _ _⟩
  case round =>
    clear HK hm
    obtain ⟨k, m', d', q, B', rfl, rfl, hk, hkx, hqk, hmd, HK, hown, hd⟩ := hrel
    by_cases hlt : k < n
    · have hltI : (k : Int) < (n : Int) := by omega
      have h1 := (HO.out.below hd.out).2.2.2
      rcases h1 with h1 | ⟨b, off, rfl, hbw, hc⟩
      · omega
      have hx := hc k hlt
      clear hc
      have hkL : k < L.length := by rw [HLn.out]; exact hlt
      have HY := Lib.hid (fun h => filD_yes (L := L) (k := k) (p := p) hkL h)
      have HN := Lib.hid (fun h => filD_no (L := L) (k := k) (p := p) hkL h)
      have HY2 := Lib.hid (fun h => filP_yes (L := L) (k := k) (p := fun x => !p x) hkL h)
      have HN2 := Lib.hid (fun h => filP_no (L := L) (k := k) (p := fun x => !p x) hkL h)
      obtain ⟨x, ex⟩ : ∃ x, L[k]! = x := ⟨_, rfl⟩
      rw [ex] at hx HN HY HY2 HN2
      clear ex hkL
      obtain ⟨x0, x1, x2, x3, x4, x5⟩ := hx
      have hsz := hd.out.size
      cases hp : p x with
      | true =>
        have e1 := HY.out hp
        have e2 := HN2.out (by rw [hp]; rfl)
        have KO := HK.out
        rw [e1] at KO
        have hm0 : m' ≠ 0 := by have := KO.1; rw [List.length_cons] at this; omega
        have h1 := (KO.below hd.out).2.2.2
        rcases h1 with h1 | ⟨b', off', rfl, hbw', hc⟩
        · omega
        have hy := hc 0 (by omega)
        clear hc
        rw [show (x :: (L.drop (k + 1)).filter p)[0]! = x from rfl, Nat.zero_mul, Nat.add_zero] at hy
        obtain ⟨y0, y1, y2, y3, y4, y5⟩ := hy
        have K2 := KO.dropN (k := 1) (by omega)
        have hmI : (0 : Int) < (m' : Int) := by omega
        have hmN : 0 < m' := by omega
        have hmD : decide (0 < m') = true := decide_eq_true hmN
        have hmI1 : (1 : Int) ≤ (m' : Int) := by omega
        have hmI2 : (1 : Int) ≤ (d' : Int) := by omega
        have hq := eqlP x x
        rw [(eqO_iff x x).2 rfl] at hq
        have HK2 : Aside (Ods w (some ⟨b', off' + 1 * 6, none⟩) (m' - 1) ((L.drop (k + 1)).filter p)) := by
          rw [List.drop_succ_cons, List.drop_zero] at K2; exact K2
        rw [← e2] at hown
        clear K2 KO HK HY HN HY2 HN2 e1 e2 hp
        go_wp2_with fail
        go_quiet (fail)
        have bW : Below wr.heap.size wr ((wr.alloc (Obj.cells (OC x) 29)).drewN nq) := below_drewN ((Below.refl _ _).alloc (Nat.le_refl _) _) _
        generalize (wr.alloc (Obj.cells (OC x) 29)).drewN nq = w1 at bW ⊢
        have hown1 := own_fr (S := fun _ => False) hown (Fr.of_below bW) (fun _ _ h => h)
        have hd1 : Hid (Below w.heap.size w w1) := hd.out.trans (bW.mono hsz)
        clear hown hd bW x0 x1 x2 x3 x4 x5 y0 y1 y2 y3 y4 y5 hq
        by_cases hcap : d' = 1
        · subst hcap
          obtain rfl : m' = 1 := by omega
          go_wp2_with fail
          go_roundg (n - (k + 1))
          case measure => omega
          case rel => exact ⟨k + 1, 0, 0, q, _, by go_num, rfl, by omega, by omega, by omega, Nat.le_refl _, (by have h := HK2.out; have hl := h.1; rw [List.eq_nil_of_length_eq_zero hl]; exact Ods.nil _), hown1, hd1⟩
        · have hcap2 : ¬ 1 = d' := fun e => hcap e.symm
          go_wp2_with fail
          go_roundg (n - (k + 1))
          case measure => omega
          case rel => exact ⟨k + 1, m' - 1, d' - 1, q, _, by go_num, rfl, by omega, by omega, by omega, by omega, HK2, hown1, hd1⟩
      | false =>
        have e1 := HN.out hp
        have e2 := HY2.out (by rw [hp]; rfl)
        have hK2 : Aside (Ods w B' m' ((L.drop (k + 1)).filter p)) := by rw [← e1]; exact HK.out
        clear HK HY HN HY2 HN2 e1
        have E2 := Lib.hid e2
        clear e2
        have W : ∀ (w1 : World), Below wr.heap.size wr w1 → True := fun _ _ => trivial
        clear W
        by_cases hm0 : m' = 0
        · subst hm0
          have hmN : decide (0 < 0) = false := rfl
          go_wp2_with fail
          go_quiet (fail)
          have f0 : ((wr.alloc (Obj.cells (OC x) 29)).drewN nq).heap[wr.heap.size]? = some (.cells (OC x) 29 (0, 0)) := heap_alloc_new wr _
          have bW : Below wr.heap.size wr ((wr.alloc (Obj.cells (OC x) 29)).drewN nq) := below_drewN ((Below.refl _ _).alloc (Nat.le_refl _) _) _
          generalize (wr.alloc (Obj.cells (OC x) 29)).drewN nq = w1 at f0 bW ⊢
          have hown1 := own_fr (S := fun _ => False) hown (Fr.of_below bW) (fun _ _ h => h)
          have hd1 : Hid (Below w.heap.size w w1) := hd.out.trans (bW.mono hsz)
          have hs1 := hd1.out.size
          obtain ⟨z0, z1, z2, z3, z4, z5⟩ := box6 f0
          clear hown hd bW x0 x1 x2 x3 x4 x5 f0
          go_wp2_with (at_builtin; refine wpList_append_own _ rfl _ _ 22 rfl w.heap.size 29 i0 (.agg (OC ⟨0, 0, 0, 0, 0, 0⟩)) 6 48 Try.underlying22 hi0 hz0 hz1 hz2 rfl (by decide) _ _ _ rfl (hown1.alloc _) ⟨w1.heap.size, 0, none⟩ 1 1 (encO x) rfl rfl ?c1 ?c2 ?c3 ?c4 ?c5 ?_)
          case c1 => exact six_newsT 29 w1 x
          case c2 => exact enc_one x
          case c3 => unfold maxLen; omega
          case c4 => omega
          case c5 => simp; omega
          intro v2 w2 hown2 hg2 _
          have hd2 : Hid (Below w.heap.size w w2) := Below.grown (hd1.out.alloc hs1 _) hg2 (by simp; omega) (fun k hk => (hown1.lt k hk).1)
          rw [← ol_app, ← E2.out] at hown2
          clear hg2 hown1 hd1
          go_wp2_with fail
          go_roundg (n - (k + 1))
          case measure => omega
          case rel => exact ⟨k + 1, _, _, q + 1, _, by go_num, rfl, by omega, by omega, by omega, hmd, hK2, hown2, hd2⟩
        · have KO := hK2.out
          have h1 := (KO.below hd.out).2.2.2
          rcases h1 with h1 | ⟨b', off', rfl, hbw', hc⟩
          · omega
          have hy := hc 0 (by omega)
          clear hc
          have hpy : p (((L.drop (k + 1)).filter p)[0]!) = true := by
            have hl := KO.1
            rw [getElem!_pos _ 0 (by omega)]
            exact (List.mem_filter.1 (List.getElem_mem _)).2
          obtain ⟨y, ey⟩ : ∃ y, ((L.drop (k + 1)).filter p)[0]! = y := ⟨_, rfl⟩
          rw [ey, Nat.zero_mul, Nat.add_zero] at hy
          rw [ey] at hpy
          have hq := eqlP x y
          rw [eqO_no hp hpy] at hq
          clear ey hpy KO hp
          obtain ⟨y0, y1, y2, y3, y4, y5⟩ := hy
          have hmI : (0 : Int) < (m' : Int) := by omega
          have hmN : 0 < m' := by omega
          have hmD : decide (0 < m') = true := decide_eq_true hmN
          go_wp2_with fail
          go_quiet (fail)
          clear y0 y1 y2 y3 y4 y5 hq hbw' hmI hmN hmD
          have f0 : ((wr.alloc (Obj.cells (OC x) 29)).drewN nq).heap[wr.heap.size]? = some (.cells (OC x) 29 (0, 0)) := heap_alloc_new wr _
          have bW : Below wr.heap.size wr ((wr.alloc (Obj.cells (OC x) 29)).drewN nq) := below_drewN ((Below.refl _ _).alloc (Nat.le_refl _) _) _
          generalize (wr.alloc (Obj.cells (OC x) 29)).drewN nq = w1 at f0 bW ⊢
          have hown1 := own_fr (S := fun _ => False) hown (Fr.of_below bW) (fun _ _ h => h)
          have hd1 : Hid (Below w.heap.size w w1) := hd.out.trans (bW.mono hsz)
          have hs1 := hd1.out.size
          obtain ⟨z0, z1, z2, z3, z4, z5⟩ := box6 f0
          clear hown hd bW x0 x1 x2 x3 x4 x5 f0
          go_wp2_with (at_builtin; refine wpList_append_own _ rfl _ _ 22 rfl w.heap.size 29 i0 (.agg (OC ⟨0, 0, 0, 0, 0, 0⟩)) 6 48 Try.underlying22 hi0 hz0 hz1 hz2 rfl (by decide) _ _ _ rfl (hown1.alloc _) ⟨w1.heap.size, 0, none⟩ 1 1 (encO x) rfl rfl ?c1 ?c2 ?c3 ?c4 ?c5 ?_)
          case c1 => exact six_newsT 29 w1 x
          case c2 => exact enc_one x
          case c3 => unfold maxLen; omega
          case c4 => omega
          case c5 => simp; omega
          intro v2 w2 hown2 hg2 _
          have hd2 : Hid (Below w.heap.size w w2) := Below.grown (hd1.out.alloc hs1 _) hg2 (by simp; omega) (fun k hk => (hown1.lt k hk).1)
          rw [← ol_app, ← E2.out] at hown2
          clear hg2 hown1 hd1
          go_wp2_with fail
          go_roundg (n - (k + 1))
          case measure => omega
          case rel => exact ⟨k + 1, _, _, q + 1, _, by go_num, rfl, by omega, by omega, by omega, hmd, hK2, hown2, hd2⟩
    · have hltI : ¬ (k : Int) < (n : Int) := by omega
      obtain rfl : k = n := by omega
      rw [List.take_of_length_le (by rw [HLn.out]; exact Nat.le_refl _)] at hown
      go_wp2_with fail
      go_ret
      exact ⟨_, q, rfl, hd.out, hown⟩
end Go.Proofs.Ytpibkjldmmecpaa
