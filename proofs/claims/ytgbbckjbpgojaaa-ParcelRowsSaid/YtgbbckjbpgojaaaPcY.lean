/- parcel: where the parcels end, and why. -/
import Derived.Test.YtgbbckjbpgojaaaPcX
namespace Go.Proofs.Ytgbbckjbpgojaaa
open Go.RowKit Go.Shelf

attribute [local go_sem] Oper.semAt_some

/-- The number where they end. -/
def endN (l : List UInt8) : Nat := (sizes l).sum
def endEr (l : List UInt8) : Nat := if endN l = l.length then 0 else (firstF (l.drop (endN l))).er
theorem sizesF_sum : ∀ (f : Nat) (l : List UInt8), (sizesF f l).sum ≤ l.length
  | 0, _ => Nat.zero_le _
  | f + 1, l => by
    unfold sizesF
    split
    · have h1 := (parN_le l).1
      have h2 := sizesF_sum f (l.drop (parN l))
      rw [List.length_drop] at h2
      rw [List.sum_cons]
      omega
    · simp
theorem endN_le (l : List UInt8) : endN l ≤ l.length := sizesF_sum _ _

theorem keepE_t {g : Nat} {A B C : World} (h : KeepE g A B) (h' : KeepE g B C) : KeepE g A C := h.trans h'
theorem keepE_b {g : Nat} (W : World) (l : Nat) (o o' : Obj) (hl : W.heap[l]? = some o) (ho : o.isCells = false) : KeepE g W (W.putObj l o') := by
  refine ⟨by simp [World.putObj], fun k cs T fz _ hc => ?_⟩
  by_cases h : k = l
  · subst h
    rw [hl] at hc
    injection hc with hc
    rw [hc] at ho
    cases ho
  · exact (World.putObj_heap_other h).trans hc
theorem keepE_alloc {g : Nat} (W : World) (o : Obj) : KeepE g W (W.alloc o) := ⟨by simp, fun k cs T fz _ hc => (Below.heap_alloc W o k (blk_lt hc)).trans hc⟩
theorem keepE_set {g : Nat} (W : World) (v : Value) : KeepE g W (W.setCell ⟨g, 0, none⟩ v) := ⟨by simp [World.setCell], fun k cs T fz hk hc => (heap_far (a := ⟨g, 0, none⟩) hk).trans hc⟩

theorem all_stops (n : Nat) (hn : 1 ≤ n) (Bs g : Nat) (A : Option Addr) (len cap : Nat) (l : List UInt8) (hlen : len ≤ 1000000) (hlc : len ≤ cap) (hcap : cap ≤ 9223372036854775807) (w : World)
    (hg : g < w.heap.size) (hBs : Bs < w.heap.size) (hc : w.cell? ⟨Bs, 0, none⟩ = some (.slice A len cap)) (hS : SlB w A len l) (hA : ∀ a, A = some a → 0 < len → a.block ≠ g) :
    SeqStopsK Fence.wide n Try.prog 24 #[.pointer (some ⟨Bs, 0, none⟩)] (fun x : Par => #[Par.val x]) (KeepE g) (fun ys => ys.map (·.sz) = sizes l) (fun pre => pre.map (·.sz) <+: sizes l) (l.length + 1) w := fun ll J Jx W hW hJ _ hY h0 =>
  all1_in n hn ll Bs g A len cap l hlen hlc hcap J Jx W (Nat.lt_of_lt_of_le hg hW.size) hJ hY ((hW.cell (p := ⟨Bs, 0, none⟩) hBs).trans hc) (hS.below hW) hA h0

theorem cell_new_e (W : World) (v : Value) (t : TypeId) : (W.alloc (.cells #[v] t)).cell? ⟨W.heap.size, 0, none⟩ = some v ∧ (W.alloc (.cells #[v] t)).frozen? ⟨W.heap.size, 0, none⟩ = false := by
  have h : (W.alloc (.cells #[v] t)).heap[W.heap.size]? = some (.cells #[v] t) := heap_alloc_new W _
  exact ⟨by rw [cell_of_row _ _ _ _ _ _ h]; rfl, frozen_of_row _ _ _ _ _ h⟩
theorem cell_alloc_e {W : World} {a : Addr} {v : Value} (o : Obj) (h : W.cell? a = some v) : (W.alloc o).cell? a = some v := cell_kept h (World.grownBy_alloc W o none) (fun r e => by cases e)
theorem frozen_alloc_e {W : World} {a : Addr} {v : Value} (o : Obj) (h : W.cell? a = some v) (hf : W.frozen? a = false) : (W.alloc o).frozen? a = false := (frozen_kept h (World.grownBy_alloc W o none) (fun r e => by cases e)).trans hf
theorem B3.own {T : TypeId} {c : Nat} {x y z : Value} {X Y : World} {row : Option Nat} (h : B3 T X c x y z) (hg : X.grownBy Y row) (hr : ∀ r, row = some r → ∃ o : Obj, X.heap[r]? = some o ∧ o.isCells = false) : B3 T Y c x y z :=
  (hg.block c (blk_lt h) (fun e => by obtain ⟨o, ho, hc⟩ := hr c e.symm; rw [show X.heap[c]? = _ from h] at ho; cases ho; cases hc)).trans h

/-- What the loop's variable leaves: its box. -/
def AxE (A : Option Addr) (len cap g Bs : Nat) (x : Par) (a' : Act) (W : World) : Prop :=
  ∃ Bx, Bx ≠ g ∧ B3 45 W Bx (.int .u8 (x.kd : Int)) (.slice x.A x.n x.c) (.int .i64 (x.sz : Int)) ∧
    a' = { tmps := #[.slice A len cap, undef, .int .i64 0, .int .i64 0, .pointer (some ⟨g, 0, none⟩), .pointer (some ⟨Bx, 0, none⟩), undef, undef, .slice A len cap, .func (.func 24) #[] #[.pointer (some ⟨Bs, 0, none⟩)], x.val, undef, undef, undef, undef, undef, undef, undef, undef, undef, undef, undef, undef, undef, undef, undef, undef, undef, undef], defers := [] }

/-- The sum so far, as the number holds it. -/
def sumZ (pre : List Par) : Int := IntKind.i64.wrap (((pre.map (·.sz)).sum : Nat) : Int)
theorem sumZ_snoc (pre : List Par) (x : Par) : sumZ (pre ++ [x]) = wrap64 (sumZ pre + (x.sz : Int)) := by
  unfold sumZ
  rw [List.map_append, List.sum_append, List.map_cons, List.map_nil, List.sum_cons, List.sum_nil, Nat.add_zero]
  simp only [IntKind.wrap_i64, wrap64]
  omega

set_option maxRecDepth 100000 in
set_option maxHeartbeats 4000000 in
theorem end_c (A : Option Addr) (len cap : Nat) (l : List UInt8) (w : World) (hS : SlB w A len l) (hlen : len ≤ 1000000) (hlc : len ≤ cap) (hcap : cap ≤ 9223372036854775807) (hA : ∀ a, A = some a → 0 < len → a.block < w.heap.size) :
    Calls Try.prog 5 #[.slice A len cap] w fun e w' => e = .returned (.tuple #[.int .i64 (endN l : Int), .int .i64 (endEr l : Int)]) ∧ Hid (Below w.heap.size w w') := by
  refine (callsIn_wide (n := 5)).1 ?_
  refine callsIn_of_wp_marks Try.func5 rfl trivial ?_ rfl
  simp only [Try.ntmps5, List.size_toArray, List.length_cons, List.length_nil, Nat.reduceAdd, Nat.reduceSub, Array.replicate_succ, Array.replicate_zero, List.push_toArray, List.append_toArray, List.nil_append, List.cons_append]
  gi_wp2_with (refine ⟨trivial, ?_⟩; refine (allOf_in (5 - 1) _ _ _ _).mono ?_; rintro e w' ⟨rfl, rfl⟩)
  have hs := cell_new_e w (.int .i64 0) 3
  have hb := cell_new_e (w.alloc (.cells #[.int .i64 0] 3)) (.slice A len cap) 22
  rw [World.size_alloc] at hb
  have hB0 : Below w.heap.size w ((w.alloc (.cells #[.int .i64 0] 3)).alloc (.cells #[.slice A len cap] 22)) := ((Below.refl _ w).alloc (Nat.le_refl _) _).alloc (by simp) _
  have hc0 := cell_alloc_e (.cells #[.slice A len cap] 22) hs.1
  have hf0 := frozen_alloc_e (.cells #[.slice A len cap] 22) hs.1 hs.2
  have hsz : ((w.alloc (.cells #[.int .i64 0] 3)).alloc (.cells #[.slice A len cap] 22)).heap.size = w.heap.size + 2 := by simp
  obtain ⟨W0, hW0⟩ : ∃ W0, (w.alloc (.cells #[.int .i64 0] 3)).alloc (.cells #[.slice A len cap] 22) = W0 := ⟨_, rfl⟩
  rw [hW0] at hb hB0 hc0 hf0 hsz ⊢
  clear hW0
  refine wpIn_rangeFunc_ownH rfl (by omega) (gf := 24) (lb := #[.pointer (some ⟨w.heap.size + 1, 0, none⟩)]) rfl trivial (enters_of Try.func24 (by kernel_rfl) rfl)
    (all_stops (5 - 1) (by omega) (w.heap.size + 1) w.heap.size A len cap l hlen hlc hcap W0 (by omega) (by omega) hb.1 (hS.below hB0) (fun a ha hp => by have := hA a ha hp; omega)) keepE_t (fun W k o o' _ hk ho _ => keepE_b W k o o' hk ho) (Below.refl _ _) (fun _ => rfl)
    (fun pre W => (W.cell? ⟨w.heap.size, 0, none⟩ = some (.int .i64 (sumZ pre)) ∧ W.frozen? ⟨w.heap.size, 0, none⟩ = false) ∧ Below w.heap.size w W)
    (fun _ _ _ => False)
    (OwnFrom.and (Own.from (fun s A B row hs hg hr => ⟨cell_kept hs.1 hg hr, (frozen_kept hs.1 hg hr).trans hs.2⟩) _) (ownFrom_below (Nat.le_refl _) (by omega)))
    (fun _ _ _ _ _ hs _ _ => hs)
    ⟨⟨hc0, hf0⟩, hB0⟩
    (AxE A len cap w.heap.size (w.heap.size + 1))
    (fun x a' _ X Y row hs hg hr => by obtain ⟨Bx, h1, h2, h3⟩ := hs; exact ⟨Bx, h1, h2.own hg (fun r e => (hr r e).2), h3⟩)
    ?assign ?body ?done ?stop
  case assign =>
    rintro l0 pre ⟨k, A0, n0, c0, s0⟩ W K ⟨⟨hc, hf⟩, hB⟩ hK
    simp only [Par.val] at *
    gi_wp2
    have hlt : w.heap.size < W.heap.size := World.block_lt_of_cell? W _ hc
    exact hK _ _ ((KeepsOthers.alloc _ _).from _) (keepE_alloc _ _) ⟨⟨cell_alloc_e _ hc, frozen_alloc_e _ hc hf⟩, hB.alloc hB.size _⟩ ⟨W.heap.size, by omega, heap_alloc_new W _, rfl⟩
  case body =>
    rintro l0 pre ⟨k, A0, n0, c0, s0⟩ a' W hl ⟨r, hr⟩ ⟨⟨hc, hf⟩, hB⟩ ⟨Bx, hBx, bX, rfl⟩ hlt
    obtain ⟨p0, p1, p2⟩ := bX.three
    gi_wp2
    exact ⟨(KeepsOthers.setCell _ _ _).from _, keepE_set _ _, ⟨by rw [sumZ_snoc]; exact World.cell?_setCell_same' _ _ _ (by rw [hc]; rfl), by rw [World.frozen?_setCell]; exact hf⟩, hB.setCell (p := ⟨w.heap.size, 0, none⟩) (Nat.le_refl _) _⟩
  case done =>
    rintro D ys W hD hys ⟨⟨hc, _⟩, hB⟩ hK
    have hz : sumZ ys = (endN l : Int) := by
      unfold sumZ
      rw [hys]
      have := endN_le l
      have := hS.1
      unfold endN at *
      rw [IntKind.wrap_i64]
      omega
    rw [hz] at hc
    clear hz hys hb hc0 hf0 hs
    have hle := endN_le l
    have hll := hS.1
    have hSW := hS.below hB
    obtain ⟨E, hE⟩ : ∃ E, endN l = E := ⟨_, rfl⟩
    have hEe : endEr l = if E = l.length then 0 else (firstF (l.drop E)).er := by unfold endEr; rw [hE]
    have HE := Lib.hid hE
    rw [hE] at hc hle
    clear hE
    by_cases he : E = len
    · have heb : ((E : Int) == (len : Int)) = true := by simp [he]
      have her := Lib.hid (show endEr l = 0 by rw [hEe, if_pos (by omega)])
      have he2 := Lib.hid he
      clear he hEe
      gi_wp2_with fail
      all_goals
        refine ⟨by simp, .inl ⟨_, _, rfl, run_takeDeferred hK, ?_⟩⟩
        exact ⟨_, results_tmp2 rfl _ _ _, by rw [her.out, HE.out]; rfl, Lib.hid (hB.trans (belowK_b (w := w) (Nat.le_refl _) W D _ _ (by omega) hK rfl rfl))⟩
    · have heb : ((E : Int) == (len : Int)) = false := by simp; omega
      have her : endEr l = (firstF (l.drop E)).er := by rw [hEe, if_neg (by omega)]
      have hEb : 0 ≤ (E : Int) ∧ (E : Int) ≤ (len : Int) := by omega
      have hEc : ¬ cap = E := by omega
      obtain ⟨k2, A2, n2, c2, s2, hp2⟩ : ∃ k2 A2 n2 c2 s2, parOf (A.map (fun x => x.add E)) (cap - E) (l.drop E) = ⟨k2, A2, n2, c2, s2⟩ := ⟨_, _, _, _, _, rfl⟩
      obtain ⟨er2, her2⟩ : ∃ er, er = (firstF (l.drop E)).er := ⟨_, rfl⟩
      have hSd : SlB W (A.map (fun x => x.add E)) (len - E) (l.drop E) := by
        rcases hSW.2 with h0 | ⟨b, off, rfl, _⟩
        · omega
        · have := hSW.drop E (by omega)
          simpa [addr_add] using this
      have HF := Lib.hid (first_p (5 - 1) _ (len - E) (cap - E) (l.drop E) _ hSd (by omega) (by omega) (by omega) k2 A2 n2 c2 s2 er2 hp2 her2.symm)
      have HER := Lib.hid (her.trans her2.symm)
      clear hp2 her2 hSd hSW her hEe
      gi_wp2_with fail
      refine ⟨trivial, ?_⟩
      ((with_reducible refine HF.out.mono ?_); rintro e W5 ⟨rfl, hd5⟩)
      have hgl : w.heap.size < W.heap.size := World.block_lt_of_cell? W _ hc
      have hDl : D < W.heap.size := blk_lt hK
      have hc5 : W5.cell? ⟨w.heap.size, 0, none⟩ = some (.int .i64 (E : Int)) := (hd5.out.cell (p := ⟨w.heap.size, 0, none⟩) hgl).trans hc
      have hc6 := cell_alloc_e (.cells #[.int .u8 (k2 : Int), .slice A2 n2 c2, .int .i64 (s2 : Int)] 45) hc5
      have hK5 : W5.heap[D]? = some (.deferred (some [])) := (hd5.out.block D hDl).trans hK
      have hK6 : (W5.alloc (.cells #[.int .u8 (k2 : Int), .slice A2 n2 c2, .int .i64 (s2 : Int)] 45)).heap[D]? = some (.deferred (some [])) := (Below.heap_alloc W5 _ D (blk_lt hK5)).trans hK5
      have hB6 : Below w.heap.size w (W5.alloc (.cells #[.int .u8 (k2 : Int), .slice A2 n2 c2, .int .i64 (s2 : Int)] 45)) := (hB.trans (hd5.out.mono hB.size)).alloc (Nat.le_trans hB.size hd5.out.size) _
      gi_wp2_with fail
      refine ⟨by simp, .inl ⟨_, _, rfl, run_takeDeferred hK6, ?_⟩⟩
      exact ⟨_, results_tmp2 rfl _ _ _, by rw [HER.out, HE.out]; rfl, Lib.hid (hB6.trans (belowK_b (w := w) (Nat.le_refl _) _ D _ _ (by omega) hK6 rfl rfl))⟩
  case stop =>
    rintro D c pre W _ _ h _
    exact h.elim
end Go.Proofs.Ytgbbckjbpgojaaa
