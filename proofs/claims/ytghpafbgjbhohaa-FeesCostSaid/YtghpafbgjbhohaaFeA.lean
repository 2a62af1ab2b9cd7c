/- fees: a row that may be; a role's part. -/
import Derived.Test.YtghpafbgjbhohaaFeO
namespace Go.Proofs.Ytghpafbgjbhohaa
open Go.RowKit

theorem getTF (t : List Ti) (i : Nat) : (t[i]!).f = TF t i := by
  unfold TF
  rw [List.getElem!_eq_getElem?_getD, List.getD_eq_getElem?_getD]; rfl
theorem getTM (t : List Ti) (i : Nat) : (t[i]!).m = TM t i := by
  unfold TM
  rw [List.getElem!_eq_getElem?_getD, List.getD_eq_getElem?_getD]; rfl
theorem getTK (t : List Ti) (i : Nat) : (t[i]!).k = TK t i := by
  unfold TK
  rw [List.getElem!_eq_getElem?_getD, List.getD_eq_getElem?_getD]; rfl
/-- The cells of a table. -/
theorem Tis.row {w : World} {a : Option Addr} {len : Nat} {t : List Ti} (h : Tis w a len t) {i : Nat} (hi : i < len) :
    ∃ b off, a = some ⟨b, off, none⟩ ∧ b < w.heap.size ∧ w.cell? ⟨b, off + i * 3, none⟩ = some (.int .i64 (TF t i)) ∧ w.cell? ⟨b, off + i * 3 + 1, none⟩ = some (.int .i64 (TM t i)) ∧ w.cell? ⟨b, off + i * 3 + 2, none⟩ = some (.int .i64 (TK t i)) ∧
      (-9223372036854775808 ≤ TF t i ∧ TF t i ≤ 9223372036854775807) ∧ (-9223372036854775808 ≤ TM t i ∧ TM t i ≤ 9223372036854775807) ∧ (-9223372036854775808 ≤ TK t i ∧ TK t i ≤ 9223372036854775807) := by
  obtain ⟨h1, h2, h3, h4⟩ := h
  rcases h4 with h4 | ⟨b, off, ha, hb, hc⟩
  · omega
  · obtain ⟨p0, p1, p2⟩ := hc i hi
    rw [getTF] at p0
    rw [getTM] at p1
    rw [getTK] at p2
    have hm : t[i]! ∈ t := by
      rw [List.getElem!_eq_getElem?_getD, List.getElem?_eq_getElem (by rw [h1]; exact hi)]
      exact List.getElem_mem _
    have ho := h3 _ hm
    unfold Ti.ok at ho
    rw [getTF, getTM, getTK] at ho
    exact ⟨b, off, ha, hb, p0, p1, p2, ho⟩

set_option maxHeartbeats 4000000 in
set_option maxRecDepth 100000 in
theorem within_c (n most : Int) (w : World) :
    Calls Try.prog 60 #[.int .i64 n, .int .i64 most] w fun e w' => e = .returned (.int .i64 (min (max n 0) most)) ∧ w = w' := by
  obtain ⟨r, hr⟩ : ∃ r, r = min (max n 0) most := ⟨_, rfl⟩
  rw [← hr]
  by_cases h1 : n < 0
  · by_cases h2 : most < 0
    · have h : r = most := by omega
      subst h
      clear hr
      go_enter Try.func60, Try.ntmps60
      go_wp2_with fail
      go_ret
      exact ⟨rfl, rfl⟩
    · have h : r = 0 := by omega
      have h3 : 0 ≤ most := by omega
      subst h
      clear hr h2
      go_enter Try.func60, Try.ntmps60
      go_wp2_with fail
      go_ret
      exact ⟨rfl, rfl⟩
  · have h0 : 0 ≤ n := by omega
    by_cases h2 : most < n
    · have h : r = most := by omega
      subst h
      clear hr h1
      go_enter Try.func60, Try.ntmps60
      go_wp2_with fail
      go_ret
      exact ⟨rfl, rfl⟩
    · have h : r = n := by omega
      have h3 : n ≤ most := by omega
      subst h
      clear hr h1 h2
      go_enter Try.func60, Try.ntmps60
      go_wp2_with fail
      go_ret
      exact ⟨rfl, rfl⟩

/-- A row of the call's own. -/
def T3 (w : World) (c : Nat) (f m k : Int) : Prop := w.heap[c]? = some (.cells #[.int .i64 f, .int .i64 m, .int .i64 k] 41 (0, 0))
theorem T3.c0 {w : World} {c : Nat} {f m k : Int} (h : T3 w c f m k) : w.cell? ⟨c, 0, none⟩ = some (.int .i64 f) := by rw [cell_of_row _ _ _ _ _ _ h]; rfl
theorem T3.c1 {w : World} {c : Nat} {f m k : Int} (h : T3 w c f m k) : w.cell? ⟨c, 1, none⟩ = some (.int .i64 m) := by rw [cell_of_row _ _ _ _ _ _ h]; rfl
theorem T3.c2 {w : World} {c : Nat} {f m k : Int} (h : T3 w c f m k) : w.cell? ⟨c, 2, none⟩ = some (.int .i64 k) := by rw [cell_of_row _ _ _ _ _ _ h]; rfl
theorem T3.f {w : World} {c : Nat} {f m k : Int} (h : T3 w c f m k) (j : Nat) : w.frozen? ⟨c, j, none⟩ = false := frozen_of_row _ _ _ _ _ h
theorem T3.below {w w' : World} {c : Nat} {f m k : Int} (h : T3 w c f m k) (hb : Below w.heap.size w w') : T3 w' c f m k := (hb.block c (blk_lt h)).trans h
theorem T3.alloc {w : World} {c : Nat} {f m k : Int} (h : T3 w c f m k) (o : Obj) : T3 (w.alloc o) c f m k := (Below.heap_alloc w o c (blk_lt h)).trans h
/-- Three stores into it. -/
abbrev set3 (w : World) (c : Nat) (x y z : Int) : World := ((w.setCell ⟨c, 0, none⟩ (.int .i64 x)).setCell ⟨c, 1, none⟩ (.int .i64 y)).setCell ⟨c, 2, none⟩ (.int .i64 z)
theorem T3.set {w : World} {c : Nat} {f m k : Int} (h : T3 w c f m k) (x y z : Int) : T3 (set3 w c x y z) c x y z := by
  have h2 := heap_set (k := 2) (v := .int .i64 z) (heap_set (k := 1) (v := .int .i64 y) (heap_set (k := 0) (v := .int .i64 x) h))
  exact h2
theorem T3.low {w : World} {c : Nat} {B : Nat} {w0 : World} (hb : Below B w0 w) (hB : B ≤ c) (x y z : Int) : Below B w0 (set3 w c x y z) :=
  ((hb.setCell (p := ⟨c, 0, none⟩) (by simp; omega) _).setCell (p := ⟨c, 1, none⟩) (by simp; omega) _).setCell (p := ⟨c, 2, none⟩) (by simp; omega) _

set_option maxHeartbeats 4000000 in
set_option maxRecDepth 100000 in
theorem held_c (f m k : Int) (w : World) :
    Calls Try.prog 38 #[.agg #[.int .i64 f, .int .i64 m, .int .i64 k]] w (Got w (.agg #[.int .i64 (min (max f 0) 4611686018427387904), .int .i64 (min (max m 0) 100000), .int .i64 (min (max k 0) 100000)])) := by
  have HW := Lib.hid within_c
  have hn : T3 (w.alloc (.cells #[.int .i64 f, .int .i64 m, .int .i64 k] 41)) w.heap.size f m k := heap_alloc_new w _
  have HT : Hid (T3 ((w.alloc (.cells #[.int .i64 f, .int .i64 m, .int .i64 k] 41)).alloc (.cells #[.int .i64 0, .int .i64 0, .int .i64 0] 41)) w.heap.size f m k) := hn.alloc _
  have HR : Hid (T3 ((w.alloc (.cells #[.int .i64 f, .int .i64 m, .int .i64 k] 41)).alloc (.cells #[.int .i64 0, .int .i64 0, .int .i64 0] 41)) (w.heap.size + 1) 0 0 0) := by
    have := heap_alloc_new (w.alloc (.cells #[.int .i64 f, .int .i64 m, .int .i64 k] 41)) (.cells #[.int .i64 0, .int .i64 0, .int .i64 0] 41)
    rw [World.size_alloc] at this
    exact this
  have H0 : Hid (Below w.heap.size w ((w.alloc (.cells #[.int .i64 f, .int .i64 m, .int .i64 k] 41)).alloc (.cells #[.int .i64 0, .int .i64 0, .int .i64 0] 41))) := ((Below.refl _ w).alloc (Nat.le_refl _) _).alloc (by simp) _
  clear hn
  go_enter Try.func38, Try.ntmps38
  go_wp2_with fail
  go_region_held3 (fun w' => w'.cell? ⟨w.heap.size, 0, none⟩ = some (.int .i64 f) ∧ w'.cell? ⟨w.heap.size, 1, none⟩ = some (.int .i64 m) ∧ w'.cell? ⟨w.heap.size, 2, none⟩ = some (.int .i64 k)) (first | exact ⟨HT.out.c0, HT.out.c1, HT.out.c2⟩ | go_keep) (first | ((with_reducible refine (HW.out _ _ _).mono ?_); rintro e w1 ⟨rfl, rfl⟩) | fail)
  all_goals
    go_wp2_with fail
    refine bodyPost_ret (v := .agg #[.int .i64 (min (max f 0) 4611686018427387904), .int .i64 (min (max m 0) 100000), .int .i64 (min (max k 0) 100000)]) (by simp [results, Try.results38, go_sem]) rfl ⟨rfl, ?_⟩
    exact (((Below.refl _ w).alloc (Nat.le_refl _) _).alloc (by simp) _).drew
end Go.Proofs.Ytghpafbgjbhohaa
