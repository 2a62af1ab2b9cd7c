/- ladder: Best. -/
import Derived.Test.YtailiaobbgikfaaLdH
namespace Go.Proofs.Ytailiaobbgikfaa
open Go.RowKit Go.Shelf Go.Sort

def bestO : List Rw → Option Od
  | [] => none
  | r :: _ => r.q.head?
theorem retOt {fn : Func} {p q : Tmp} (h : fn.results = #[.cell p 24, .tmp q]) (tmps : Array Value) (w : World) (g : Nat) (hp : tmps.getD p undef = .pointer (some ⟨g, 0, none⟩)) (z : Od) (t : TypeId)
    (hg : Cl t w g (OC z)) (v : Value) (hq : tmps.getD q undef = v) : (results fn tmps).run Try.prog w = .ok (.tuple #[.agg (OC z), v]) w := by
  have hp' : tmps[p]?.getD undef = .pointer (some ⟨g, 0, none⟩) := by simpa using hp
  have hq' : tmps[q]?.getD undef = v := by simpa using hq
  simp [results, h, hp', hq', asAddr, run_loadVar_row w g _ _ _ (0, 0) _ hg Try.underlying24 rfl infoO]
/-- The first row's first order, in memory. -/
theorem best_at {w : World} {b : Option Addr} {m : Option Nat} {s1 s2 : Sd} (H : Bk w b m s1 s2) (hne : ∀ r ∈ s1.rs ++ s2.rs, r.q ≠ []) (sd : Int) {R : List Rw} (hR : rsOf s1 s2 sd = R) (h0 : 0 < R.length) :
    ∃ g n c g2 n2 c2 x, rowsOf s1 s2 sd = .slice (some ⟨g, 0, none⟩) n c ∧ 0 < n ∧ w.cell? ⟨g, 1, none⟩ = some (.slice (some ⟨g2, 0, none⟩) n2 c2) ∧ 0 < n2 ∧ x.at w g2 0 ∧ g2 < w.heap.size ∧ bestO R = some x := by
  obtain ⟨A, c, hv, hr, _⟩ := H.rows sd
  rw [hR] at hv hr
  rcases hr.2 with h | ⟨g, rfl, _, hc⟩
  · omega
  have hm : R[0]! ∈ s1.rs ++ s2.rs := by
    rw [getElem!_pos R 0 h0]
    exact rsOf_mem (by rw [hR]; exact List.getElem_mem h0)
  obtain ⟨A2, c2, hv2, hq⟩ := own_que (H.q _ hm)
  have hn := hne _ hm
  have hl : 0 < (R[0]!).q.length := List.length_pos_iff.2 hn
  rcases hq.2 with h | ⟨g2, rfl, hg2, hc2⟩
  · omega
  refine ⟨g, R.length, c, g2, (R[0]!).q.length, c2, (R[0]!).q[0]!, hv, h0, by have := (hc 0 h0).2; rw [hv2] at this; simpa using this, hl, by have := hc2 0 hl; simpa using this, hg2, ?_⟩
  cases R with
  | nil => exact absurd h0 (Nat.lt_irrefl 0)
  | cons r R =>
    show r.q.head? = some (r.q[0]!)
    have : 0 < r.q.length := hl
    rw [getElem!_pos r.q 0 this, List.head?_eq_getElem?, List.getElem?_eq_getElem this]
set_option maxHeartbeats 4000000 in
set_option maxRecDepth 100000 in
theorem lBest_c (b : Option Addr) (m : Option Nat) (s1 s2 : Sd) (sd : Int) (hsd : (Lit.int .i64 sd).wf = true) (w : World) (H : Bk w b m s1 s2) (hne : ∀ r ∈ s1.rs ++ s2.rs, r.q ≠ []) :
    Calls Try.prog 53 #[.pointer b, .int .i64 sd] w fun e w' => e = .returned (.tuple #[optV (bestO (rsOf s1 s2 sd)), .bool (bestO (rsOf s1 s2 sd)).isSome]) ∧ Hid (Below w.heap.size w w') := by
  obtain ⟨R, hR⟩ : ∃ R, rsOf s1 s2 sd = R := ⟨_, rfl⟩
  rw [hR]
  have HA := H.below ((Below.refl _ _).alloc (Nat.le_refl _) (.cells (OC ⟨0, 0, 0, 0, 0, 0⟩) 24))
  have HS := Lib.hid (side_c b m s1 s2 sd (w.alloc (.cells (OC ⟨0, 0, 0, 0, 0, 0⟩) 24)) hsd HA)
  have hB : Below w.heap.size w (w.alloc (.cells (OC ⟨0, 0, 0, 0, 0, 0⟩) 24)) := (Below.refl _ _).alloc (Nat.le_refl _) _
  have hC : Cl 24 (w.alloc (.cells (OC ⟨0, 0, 0, 0, 0, 0⟩) 24)) w.heap.size (OC ⟨0, 0, 0, 0, 0, 0⟩) := hd_last rfl
  by_cases h0 : R.length = 0
  · obtain rfl := List.length_eq_zero_iff.1 h0
    obtain ⟨A, c, hv, _⟩ := H.rows sd
    rw [hR] at hv
    rw [hv] at HS
    clear H HA hB hC hv hR h0
    go_enter Try.func53, Try.ntmps53
    go_wp2_with ((with_reducible refine HS.out.mono ?_); rintro e w1 ⟨rfl, rfl⟩)
    refine bodyPost_ret (retOt rfl _ _ _ rfl ⟨0, 0, 0, 0, 0, 0⟩ _ (hd_last rfl) _ rfl) rfl ?_
    exact ⟨rfl, Lib.hid ((Below.refl _ _).alloc (Nat.le_refl _) _)⟩
  · obtain ⟨g, n, c, g2, n2, c2, x, hv, hn, h1, hn2, h2, hg2, hx⟩ := best_at HA hne sd hR (by omega)
    rw [hv] at HS
    rw [hx]
    obtain ⟨x0, x1, x2, x3, x4, x5⟩ := h2
    have hnI : ¬ ((n : Int) = 0) := by omega
    have hnJ : (0 : Int) < (n : Int) := by omega
    have hnK : (0 : Int) < (n2 : Int) := by omega
    clear H HA hB hC hv hR h0 hx
    go_enter Try.func53, Try.ntmps53
    go_wp2_with ((with_reducible refine HS.out.mono ?_); rintro e w1 ⟨rfl, rfl⟩)
    refine bodyPost_ret (retOt rfl _ _ _ rfl x _ (hd_last rfl) _ rfl) rfl ?_
    exact ⟨rfl, Lib.hid ((Below.refl _ _).alloc (Nat.le_refl _) _)⟩
end Go.Proofs.Ytailiaobbgikfaa
