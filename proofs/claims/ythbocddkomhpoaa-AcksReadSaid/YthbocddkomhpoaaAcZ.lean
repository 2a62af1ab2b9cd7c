/- acks: the reference's Read. (By mkacz.py.) -/
import Derived.Test.YthbocddkomhpoaaAcY
namespace Go.Proofs.Ythbocddkomhpoaa
open Go.RowKit Go.Lib
set_option linter.unusedVariables false

theorem rr_keep {w w' : World} {bs q : Nat} {l : List UInt8} {bd : Bool} (h : Co.RR w bs q l bd) (hs : w.heap.size ≤ w'.heap.size) (hk : ∀ k, k < w.heap.size → (k < bs ∨ k = q) → w'.heap[k]? = w.heap[k]?) : Co.RR w' bs q l bd := by
  obtain ⟨A, n, c, h0, h1, h2, h3, h4, h5⟩ := h
  refine ⟨A, n, c, (hk _ (blk_lt h0) (.inr rfl)).trans h0, ?_, h2, h3, h4, h5⟩
  refine ⟨h1.1, ?_⟩
  rcases h1.2 with hz | ⟨b, off, rfl, hb, hc⟩
  · exact .inl hz
  · by_cases hn : n = 0
    · exact .inl hn
    · have hb5 := h5 _ rfl (by omega)
      exact .inr ⟨b, off, rfl, Nat.lt_of_lt_of_le hb hs, fun i hi => by rw [World.cell?_of_block (w := w) (hk b hb (.inl hb5))]; exact hc i hi⟩
theorem rr_lt {w : World} {bs q : Nat} {l : List UInt8} {bd : Bool} (h : Co.RR w bs q l bd) : q < w.heap.size := by
  obtain ⟨A, n, c, h0, _⟩ := h; exact blk_lt h0
theorem rr_bs {w : World} {bs q : Nat} {l : List UInt8} {bd : Bool} (h : Co.RR w bs q l bd) : bs ≤ q := by
  obtain ⟨A, n, c, _, _, _, _, h4, _⟩ := h; exact h4
theorem rr_below {w w' : World} {bs q B : Nat} {l : List UInt8} {bd : Bool} (h : Co.RR w bs q l bd) (hb : Below B w w') (hB : q < B) : Co.RR w' bs q l bd :=
  rr_keep h hb.size (fun k hk hq => hb.block k (by have := rr_bs h; rcases hq with h1 | h1 <;> omega))
theorem rr_bad {w : World} {bs q : Nat} {l : List UInt8} {bd : Bool} (h : Co.RR w bs q l bd) : w.cell? ⟨q, 1, none⟩ = some (.bool bd) := by
  obtain ⟨A, n, c, h0, _⟩ := h; rw [cell_of_row _ _ _ _ _ _ h0]; rfl
theorem tch_below {g B : Nat} {w W W' : World} (h : Co.Tch g w W) (hb : Below B W W') (hB : w.heap.size ≤ B) : Co.Tch g w W' :=
  ⟨hb.os.trans (World.grownBy.os h), hb.tape.trans (World.grownBy.tape h), hb.output.trans (World.grownBy.output h), Nat.le_trans (Co.Tch.size h) hb.size, fun i hi hne => (hb.block i (by omega)).trans (World.grownBy.block h i hi hne)⟩
/-- One ack, built as a slice, put behind a list. -/
theorem append_ack {w : World} {ops : Array Oper} {rest : List Oper} {o : Oper} {a : Act} {Q : Exit → Act → World → Prop} (hgd : o.guard = none) (s x : Operand)
    (ho : o.op = .call { callee := .builtin .append, args := #[s, x], argTypes := #[33, 33] })
    (base : Nat) (A : Option Addr) (c : Nat) (L : Al) (hs : a.eval s = .slice A L.length c) (hR : RL w base A c L) (b : Nat) (r v : Int) (hx : a.eval x = .slice (some ⟨b, 0, none⟩) 1 1)
    (hb : w.heap[b]? = some (.cells #[.int .i64 r, .int .i64 v] 69 (0, 0))) (hl : L.length ≤ 1000) (hbase : base ≤ w.heap.size)
    (h : ∀ A' c' m w', m = (L ++ [(r, v)]).length → RL w' base A' c' (L ++ [(r, v)]) → Below base w w' → wpList Try.prog ops Q rest (a.put o.dst (.slice A' m c')) w') : wpList Try.prog ops Q (o :: rest) a w := by
  obtain ⟨i0, hi0, hz0, hz1, hz2⟩ := info_parts info_ak
  refine wpList_append_own _ hgd s x _ ho base _ i0 (.agg #[.int .i64 0, .int .i64 0]) 2 16 Try.underlying33 hi0 hz0 hz1 hz2 rfl (by decide) _ L.length (akl L) hs hR ⟨b, 0, none⟩ 1 1 (akl [(r, v)]) hx rfl ?_ (akl_one _) (by unfold maxLen; omega) (by omega) hbase (fun v' w' h1 h2 _ => ?_)
  · intro j u hu
    rw [addr_add, Nat.zero_add, cell_of_row _ _ _ _ _ _ hb]
    match j, hu with
    | 0, hu => simpa [akl] using hu
    | 1, hu => simpa [akl] using hu
  · obtain ⟨A', c', rfl⟩ := own_slice h1
    rw [← akl_app] at h1
    have hm : L.length + 1 = (L ++ [(r, v)]).length := by simp
    rw [hm] at h1 ⊢
    exact h A' c' _ w' rfl h1 (Below.grown ((Below.refl _ _).mono hbase) h2 hbase (fun k hk => (hR.lt k hk).1))
theorem bits_len (i : Int) (x : Nat) : ∀ m, (bitsL i x m).length ≤ m
  | 0 => by simp [bitsL]
  | m + 1 => by
    have := bits_len i x m
    unfold bitsL
    rw [List.length_append]
    split <;> simp <;> omega
theorem bits_more (i : Int) (x m : Nat) : bitsL i x (m + 1) = bitsL i x m ++ (if x / 2 ^ m % 2 = 1 then [(i, (m : Int) + 1)] else []) := by simp only [bitsL]
theorem div_more (x m : Nat) : x / 2 ^ m / 2 = x / 2 ^ (m + 1) := by rw [Nat.div_div_eq_div_mul, Nat.pow_succ]
/-- What the reference's Read tells. -/
def RdIs (w : World) (bs q : Nat) (ok : Bool) (z : Ta) (t : List UInt8) (b : Bool) (e : Ending) (w' : World) : Prop :=
  ∃ A c L, e = .returned (.tuple #[.agg (T2 (z 0) A L.length c), .bool ok]) ∧ Hid (Sm z L ∧ L.length ≤ 300 ∧ RL w' w.heap.size A c L ∧ Co.Tch q w w' ∧ Co.RR w' bs q t b)
set_option maxHeartbeats 4000000 in
set_option maxRecDepth 100000 in
theorem rRead_c (bs q : Nat) (l : List UInt8) (bd : Bool) (w : World) (h : Co.RR w bs q l bd) (ok : Bool) (z : Ta) (t : List UInt8) (b : Bool) (hr : rdA l bd = (ok, z, t, b)) :
    Calls Try.prog 23 #[.pointer (some ⟨q, 0, none⟩)] w (RdIs w bs q ok z t b) := by
  obtain ⟨n, t1, b1, hn⟩ : ∃ n t1 b1, Co.rdN l bd 7 = (n, t1, b1) := ⟨_, _, _, rfl⟩
  have hn7 : n ≤ 7 := by have := (Co.rdN_bound l bd 7).1; rw [hn] at this; exact this
  unfold rdA at hr
  rw [hn] at hr
  simp only at hr
  have hql := rr_lt h
  have hb0 : Below w.heap.size w (w.alloc (.cells #[.int .i64 0, .slice none 0 0] 35)) := (Below.refl _ _).alloc (Nat.le_refl _) _
  have HN : Hid (Calls Try.prog 39 #[.pointer (some ⟨q, 0, none⟩), .int .u64 7] (w.alloc (.cells #[.int .i64 0, .slice none 0 0] 35)) (Co.QT (w.alloc (.cells #[.int .i64 0, .slice none 0 0] 35)) bs q n t1 b1)) := Lib.hid (Co.qNat_c bs q l bd 7 _ (rr_below h hb0 hql) n t1 b1 hn)
  have HR := Lib.hid hr
  have hnI : (n : Int) ≤ 7 := by omega
  have HT0 : Hid (Co.Tch q w (w.alloc (.cells #[.int .i64 0, .slice none 0 0] 35))) := Lib.hid ((Co.Tch.refl q w).alloc _)
  clear h hn hr hb0
  go_enter Try.func23, Try.ntmps23
  go_wp2_with fail
  refine HN.out.mono ?_
  rintro e w1 ⟨rfl, hq1⟩
  have s1 : w.heap.size + 1 ≤ w1.heap.size := by have := hq1.out.1.size; (try simp at this); omega
  have p1 : w1.heap[w.heap.size]? = some (.cells (T2 0 none 0 0) 35 (0, 0)) := Co.Tch.blk hq1.out.1 (heap_alloc_new w _) (by omega)
  have R1 := Lib.hid hq1.out.2
  have T1 := Lib.hid (HT0.out.trans hq1.out.1)
  clear hq1 HN HT0
  go_wp2_with fail
  have q4 : (w1.alloc (.cells #[.int .i64 (n : Int), .slice none 0 0] 35)).heap[w1.heap.size]? = some (.cells (T2 n none 0 0) 35 (0, 0)) := heap_alloc_new w1 _
  have q2 : (w1.alloc (.cells #[.int .i64 (n : Int), .slice none 0 0] 35)).heap[w.heap.size]? = some (.cells (T2 0 none 0 0) 35 (0, 0)) := heap_prev (by omega) p1
  have qR : Hid (Co.RR (w1.alloc (.cells #[.int .i64 (n : Int), .slice none 0 0] 35)) bs q t1 b1) := Lib.hid (rr_below R1.out ((Below.refl _ _).alloc (Nat.le_refl _) _) (by omega))
  have qT : Hid (Co.Tch q w (w1.alloc (.cells #[.int .i64 (n : Int), .slice none 0 0] 35))) := Lib.hid (T1.out.alloc _)
  have qs : w1.heap.size < (w1.alloc (.cells #[.int .i64 (n : Int), .slice none 0 0] 35)).heap.size := blk_lt q4
  generalize hP : w1.heap.size = P at *
  generalize (w1.alloc (.cells #[.int .i64 (n : Int), .slice none 0 0] 35)) = w2 at *
  clear p1 R1 T1
  go_loopw [5, 6, 7] (fun i _ _ wr => ∃ (k : Nat) (A : Option Addr) (c : Nat) (L : Al), k ≤ n ∧ i = .int .i64 (k : Int) ∧ Hid (Sp (rdI n t1 b1 k).1 k L) ∧ Hid (L.length ≤ 32 * k) ∧ Hid (wr.heap[P]? = some (.cells (T2 n A L.length c) 35 (0, 0))) ∧ Hid (wr.heap[w.heap.size]? = some (.cells (T2 0 none 0 0) 35 (0, 0))) ∧ Hid (RL wr (P + 1) A c L) ∧ Hid (Co.RR wr bs q (rdI n t1 b1 k).2.1 (rdI n t1 b1 k).2.2) ∧ Hid (Co.Tch q w wr) ∧ P < wr.heap.size) (fun i _ _ _ => n - (intOf i).toNat)
  case atStart => exact ⟨0, none, 0, [], by omega, rfl, Lib.hid (Sp.made hn7), Lib.hid (Nat.le_refl _), Lib.hid q4, Lib.hid q2, Lib.hid (RL.nil _ _), qR, qT, qs⟩
  case round =>
    obtain ⟨k, A, c, L, hk, rfl, hSp, hL, h1, h2, hRL, hRR, hT, hs⟩ := hrel
    have c0 : wr.cell? ⟨P, 0, none⟩ = some (.int .i64 (n : Int)) := cell_of_row _ _ _ _ _ _ h1.out
    by_cases hlt : k < n
    · have hltI : (k : Int) < (n : Int) := by omega
      have hk7I : (k : Int) < 7 := by omega
      obtain ⟨x, t', b', hx⟩ : ∃ x t' b', Co.rdN (rdI n t1 b1 k).2.1 (rdI n t1 b1 k).2.2 4294967295 = (x, t', b') := ⟨_, _, _, rfl⟩
      have hnx : rdI n t1 b1 (k + 1) = (updA (rdI n t1 b1 k).1 (k + 1) x, t', b') := by simp only [rdI]; rw [hx]
      have HNX := Lib.hid hnx
      have hx32 : x < 4294967296 := by have := (Co.rdN_bound (rdI n t1 b1 k).2.1 (rdI n t1 b1 k).2.2 4294967295).1; rw [hx] at this; simp only at this; omega
      have HX32 := Lib.hid hx32
      have HSn : Hid (Sp (rdI n t1 b1 (k + 1)).1 (k + 1) (L ++ bitsL (k : Int) x 32)) := Lib.hid (by rw [hnx]; exact hSp.out.next (by rw [rdI_n]; exact hlt) hx32)
      have HNt : Hid (Calls Try.prog 39 #[.pointer (some ⟨q, 0, none⟩), .int .u64 4294967295] wr (Co.QT wr bs q x t' b')) := Lib.hid (Co.qNat_c bs q _ _ 4294967295 wr hRR.out x t' b' hx)
      clear hx hnx hx32
      go_wp2_with fail
      refine HNt.out.mono ?_
      rintro e v1 ⟨rfl, hq1⟩
      have f1 := Lib.hid (Co.Tch.blk hq1.out.1 h1.out (show P ≠ q by omega))
      have f2 := Lib.hid (Co.Tch.blk hq1.out.1 h2.out (show w.heap.size ≠ q by omega))
      have fs : P < v1.heap.size := blk_lt f1.out
      have fR := Lib.hid hq1.out.2
      have fT := Lib.hid (hT.out.trans hq1.out.1)
      have fL : Hid (RL v1 (P + 1) A c L) := Lib.hid (hRL.out.fr (S := fun j => j = q) (Fr.tch hq1.out.1) (fun j hj => by omega))
      clear hq1 HNt c0
      go_wp2_with fail
      go_loopw [6, 7] (fun x' v wi => ∃ (m : Nat) (A : Option Addr) (c : Nat) (M : Al), m ≤ 32 ∧ x' = .int .u64 ((x / 2 ^ m : Nat) : Int) ∧ v = .int .i64 ((m : Int) + 1) ∧ Hid (M = L ++ bitsL (k : Int) x m) ∧ Hid (wi.heap[P]? = some (.cells (T2 n A M.length c) 35 (0, 0))) ∧ Hid (wi.heap[w.heap.size]? = some (.cells (T2 0 none 0 0) 35 (0, 0))) ∧ Hid (RL wi (P + 1) A c M) ∧ Hid (Co.RR wi bs q t' b') ∧ Hid (Co.Tch q w wi) ∧ P < wi.heap.size) (fun _ v _ => 33 - (intOf v).toNat)
      case atStart => exact ⟨0, A, c, L, by omega, by simp, rfl, Lib.hid (by simp [bitsL]), f1, f2, fL, fR, fT, fs⟩
      case round =>
        obtain ⟨m, A, c, M, hm, rfl, rfl, hM, i1, i2, iL, iR, iT, is⟩ := hrel
        have c1 : wr.cell? ⟨P, 1, none⟩ = some (.slice A M.length c) := cell_of_row _ _ _ _ _ _ i1.out
        by_cases hm32 : m < 32
        · have hmI : (m : Int) + 1 ≤ 32 := by omega
          have hdm := div_more x m
          have hbm := bits_more (k : Int) x m
          obtain ⟨X, hX⟩ : ∃ X, X = x / 2 ^ m := ⟨_, rfl⟩
          rw [← hX] at hdm hbm ⊢
          have hX32 : X < 4294967296 := by rw [hX]; exact Nat.lt_of_le_of_lt (Nat.div_le_self _ _) HX32.out
          obtain ⟨Y, hY⟩ : ∃ Y, Y = x / 2 ^ (m + 1) := ⟨_, rfl⟩
          rw [← hY] at hdm
          have HY := Lib.hid hY
          have hq2 : (X : Int).tdiv 2 = (Y : Int) := by rw [← hdm]; exact (Int.ofNat_tdiv X 2).symm
          have hr2 : (X : Int).tmod 2 = ((X % 2 : Nat) : Int) := (Int.ofNat_tmod X 2).symm
          have hY32 : (Y : Int) ≤ 4294967295 := by omega
          have hX9 : (X : Int) ≤ 4294967295 := by omega
          clear hX hY hdm
          by_cases hb : X % 2 = 1
          · rw [hb] at hr2
            rw [if_pos hb] at hbm
            have HBM := Lib.hid hbm
            have HM9 : Hid (M.length ≤ 1000) := Lib.hid (by rw [hM.out, List.length_append]; have := bits_len (k : Int) x m; have := hL.out; omega)
            clear hbm hb
            have jL : RL (wr.alloc (.cells #[.int .i64 (k : Int), .int .i64 ((m : Int) + 1)] 69)) (P + 1) A c M := iL.out.below ((Below.refl _ _).alloc (Nat.le_refl _) _)
            have jb : (wr.alloc (.cells #[.int .i64 (k : Int), .int .i64 ((m : Int) + 1)] 69)).heap[wr.heap.size]? = some (.cells #[.int .i64 (k : Int), .int .i64 ((m : Int) + 1)] 69 (0, 0)) := heap_alloc_new wr _
            go_wp2_with (at_builtin; refine append_ack rfl _ _ rfl (P + 1) A c M rfl jL wr.heap.size _ _ rfl jb HM9.out (by simp; omega) ?_)
            intro A2 c2 m2 w9 hm2 r9 b9
            have HM2 := Lib.hid hm2
            have B9 : Hid (Below (P + 1) wr w9) := Lib.hid (((Below.refl _ wr).alloc is _).trans b9)
            have z9 : Hid (w9.heap[P]? = some (.cells (T2 n A M.length c) 35 (0, 0))) := Lib.hid ((B9.out.block P (by omega)).trans i1.out)
            have d1 : w9.cell? ⟨P, 1, none⟩ = some (.slice A M.length c) := cell_of_row _ _ _ _ _ _ z9.out
            have d3 : w9.frozen? ⟨P, 1, none⟩ = false := by simp [World.frozen?, z9.out]
            clear hm2 b9 jL jb c1
            go_wp2_with fail
            have hm3 : m2 = (M ++ [((k : Int), (m : Int) + 1)]).length := by rw [HM2.out]; simp
            subst hm3
            have e1 : Hid ((w9.setCell ⟨P, 1, none⟩ (.slice A2 (M ++ [((k : Int), (m : Int) + 1)]).length c2)).heap[P]? = some (.cells (T2 n A2 (M ++ [((k : Int), (m : Int) + 1)]).length c2) 35 (0, 0))) := Lib.hid ((heap_set z9.out).trans rfl)
            have e2 : Hid ((w9.setCell ⟨P, 1, none⟩ (.slice A2 (M ++ [((k : Int), (m : Int) + 1)]).length c2)).heap[w.heap.size]? = some (.cells (T2 0 none 0 0) 35 (0, 0))) := Lib.hid (sign_other (by simp; omega) ((B9.out.block _ (by omega)).trans i2.out))
            have hr9 : RL w9 (P + 1) A2 c2 (M ++ [((k : Int), (m : Int) + 1)]) := r9
            have e3 : Hid (RL (w9.setCell ⟨P, 1, none⟩ (.slice A2 (M ++ [((k : Int), (m : Int) + 1)]).length c2)) (P + 1) A2 c2 (M ++ [((k : Int), (m : Int) + 1)])) := Lib.hid (hr9.fr ((Fr.refl (fun j => j = P) w9).set (p := ⟨P, 1, none⟩) (.inl rfl) _) (fun j hj => by omega))
            have e4 : Hid (Co.RR (w9.setCell ⟨P, 1, none⟩ (.slice A2 (M ++ [((k : Int), (m : Int) + 1)]).length c2)) bs q t' b') := Lib.hid (rr_below (rr_below iR.out B9.out (by omega)) ((Below.refl P w9).setCell (by simp) _) (by omega))
            have e5 : Hid (Co.Tch q w (w9.setCell ⟨P, 1, none⟩ (.slice A2 (M ++ [((k : Int), (m : Int) + 1)]).length c2))) := Lib.hid (tch_below (tch_below iT.out B9.out (by omega)) ((Below.refl P w9).setCell (by simp) _) (by omega))
            exact ⟨⟨m + 1, A2, c2, M ++ [((k : Int), (m : Int) + 1)], by omega, by rw [← HY.out], by go_num, Lib.hid (by rw [hM.out, HBM.out, List.append_assoc]), e1, e2, e3, e4, e5, blk_lt e1.out⟩, by simp [intOf]; omega⟩
          · have hbI : ((X : Int).tmod 2 == 1) = false := by rw [hr2, beq_eq_false_iff_ne]; omega
            have hbI2 : ((X : Int) % 2 == 1) = false := by rw [beq_eq_false_iff_ne]; omega
            rw [if_neg hb, List.append_nil] at hbm
            clear hr2
            have HBM := Lib.hid hbm
            clear hbm hb
            go_wp2_with fail
            exact ⟨⟨m + 1, A, c, M, by omega, by rw [← HY.out], by go_num, Lib.hid (by rw [hM.out, HBM.out]), i1, i2, iL, iR, iT, is⟩, by simp [intOf]; omega⟩
        · obtain rfl : m = 32 := by omega
          have hmI : ¬ ((32 : Nat) : Int) + 1 ≤ 32 := by omega
          go_wp2_with fail
          exact ⟨⟨k + 1, A, c, M, by omega, by go_num, Lib.hid (by rw [hM.out]; exact HSn.out), Lib.hid (by rw [hM.out, List.length_append]; have := bits_len (k : Int) x 32; have := hL.out; omega), i1, i2, iL, Lib.hid (by rw [HNX.out]; exact iR.out), iT, is⟩, by simp [intOf]; omega⟩
    · obtain rfl : k = n := by omega
      have hltI : ¬ (k : Int) < (k : Int) := by omega
      have hre := HR.out
      have g1 := h1.out
      have g2 := h2.out
      have cb := rr_bad hRR.out
      have HF := Lib.hid (Co.qFail_c bs q _ _ wr hRR.out)
      have HS := hSp.out
      have hk0' : (rdI k t1 b1 k).1 0 = k := rdI_n k t1 b1 k
      have HK0 := Lib.hid hk0'
      have HSmk : Hid (Sm (rdI k t1 b1 k).1 L) := Lib.hid (Sp.done (by rw [hk0']; exact HS))
      clear HS hk0'
      generalize (rdI k t1 b1 k).1 = z9 at *
      generalize (rdI k t1 b1 k).2.1 = t9 at *
      generalize (rdI k t1 b1 k).2.2 = b9 at *
      by_cases h0 : k = 0
      · subst h0
        rw [if_pos rfl] at hre
        injection hre with e1 e2
        injection e2 with e2 e3
        injection e3 with e3 e4
        subst e1; subst e2; subst e3; subst e4
        cases b9
        all_goals
          go_wp2_with (first | ((with_reducible apply loadT); rfl; rfl; rfl; (focus ((repeat' (first | (with_reducible assumption) | ((with_reducible refine heap_last ?_); (focus (first | (simp; done) | omega | (simp; omega)))) | ((with_reducible refine heap_prev ?_ ?_); (focus (first | (simp; done) | omega | (simp; omega)))) | (with_reducible apply row_heap) | ((with_reducible apply tab_set); (focus (first | (simp; done) | omega | (simp; omega)))) | ((with_reducible refine sign_other ?_ ?_); (focus (first | (simp; done) | omega | (simp; omega)))) | ((with_reducible refine row_other ?_ ?_); (focus (first | (simp; done) | omega | (simp; omega)))) | (with_reducible refine drew_heap ?_) | (with_reducible refine drewN_heap ?_))); done)); skip) | ((with_reducible apply storeT); rfl; rfl; rfl; rfl; (focus ((repeat' (first | (with_reducible assumption) | ((with_reducible refine heap_last ?_); (focus (first | (simp; done) | omega | (simp; omega)))) | ((with_reducible refine heap_prev ?_ ?_); (focus (first | (simp; done) | omega | (simp; omega)))) | (with_reducible apply row_heap) | ((with_reducible apply tab_set); (focus (first | (simp; done) | omega | (simp; omega)))) | ((with_reducible refine sign_other ?_ ?_); (focus (first | (simp; done) | omega | (simp; omega)))) | ((with_reducible refine row_other ?_ ?_); (focus (first | (simp; done) | omega | (simp; omega)))) | (with_reducible refine drew_heap ?_) | (with_reducible refine drewN_heap ?_))); done)); skip) | ((with_reducible refine HF.out.mono ?_); rintro e v1 ⟨rfl, hq1⟩; have f2 := Co.Tch.blk hq1.out.1 g2 (show w.heap.size ≠ q by omega)))
          refine bodyPost_ret (retT2 rfl _ _ w.heap.size rfl 0 none 0 0 35 (row_heap f2) _ rfl) rfl ?_
          exact ⟨none, 0, [], rfl, Lib.hid ⟨Sm.zero, Nat.zero_le _, RL.nil _ _, tch_row (hT.out.trans hq1.out.1) (Nat.le_refl _) _, rr_below hq1.out.2 (Below.row (Below.refl w.heap.size v1) (Nat.le_refl _) _) hql⟩⟩
      · rw [if_neg h0] at hre
        have h0I : ((k : Int) == 0) = false := by rw [beq_eq_false_iff_ne]; omega
        cases b9
        · rw [if_neg (by decide)] at hre
          injection hre with e1 e2
          injection e2 with e2 e3
          injection e3 with e3 e4
          subst e1; subst e2; subst e3; subst e4
          go_wp2_with (first | ((with_reducible apply loadT); rfl; rfl; rfl; (focus ((repeat' (first | (with_reducible assumption) | ((with_reducible refine heap_last ?_); (focus (first | (simp; done) | omega | (simp; omega)))) | ((with_reducible refine heap_prev ?_ ?_); (focus (first | (simp; done) | omega | (simp; omega)))) | (with_reducible apply row_heap) | ((with_reducible apply tab_set); (focus (first | (simp; done) | omega | (simp; omega)))) | ((with_reducible refine sign_other ?_ ?_); (focus (first | (simp; done) | omega | (simp; omega)))) | ((with_reducible refine row_other ?_ ?_); (focus (first | (simp; done) | omega | (simp; omega)))) | (with_reducible refine drew_heap ?_) | (with_reducible refine drewN_heap ?_))); done)); skip) | ((with_reducible apply storeT); rfl; rfl; rfl; rfl; (focus ((repeat' (first | (with_reducible assumption) | ((with_reducible refine heap_last ?_); (focus (first | (simp; done) | omega | (simp; omega)))) | ((with_reducible refine heap_prev ?_ ?_); (focus (first | (simp; done) | omega | (simp; omega)))) | (with_reducible apply row_heap) | ((with_reducible apply tab_set); (focus (first | (simp; done) | omega | (simp; omega)))) | ((with_reducible refine sign_other ?_ ?_); (focus (first | (simp; done) | omega | (simp; omega)))) | ((with_reducible refine row_other ?_ ?_); (focus (first | (simp; done) | omega | (simp; omega)))) | (with_reducible refine drew_heap ?_) | (with_reducible refine drewN_heap ?_))); done)); skip))
          refine bodyPost_ret (retT2 rfl _ _ w.heap.size rfl k A L.length c 35 (row_heap g2) _ rfl) rfl ?_
          refine ⟨A, c, L, by rw [HK0.out]; rfl, Lib.hid ⟨HSmk.out, ?_, ?_, tch_row hT.out (Nat.le_refl _) _, rr_below hRR.out (Below.row (Below.refl w.heap.size wr) (Nat.le_refl _) _) hql⟩⟩
          · have := hL.out; omega
          · exact (hRL.out.fr (fr_row (S := fun j => j = w.heap.size) (Fr.refl _ wr) rfl _) (fun j hj => by omega)).low (by omega)
        · rw [if_pos rfl] at hre
          injection hre with e1 e2
          injection e2 with e2 e3
          injection e3 with e3 e4
          subst e1; subst e2; subst e3; subst e4
          go_wp2_with (first | ((with_reducible apply loadT); rfl; rfl; rfl; (focus ((repeat' (first | (with_reducible assumption) | ((with_reducible refine heap_last ?_); (focus (first | (simp; done) | omega | (simp; omega)))) | ((with_reducible refine heap_prev ?_ ?_); (focus (first | (simp; done) | omega | (simp; omega)))) | (with_reducible apply row_heap) | ((with_reducible apply tab_set); (focus (first | (simp; done) | omega | (simp; omega)))) | ((with_reducible refine sign_other ?_ ?_); (focus (first | (simp; done) | omega | (simp; omega)))) | ((with_reducible refine row_other ?_ ?_); (focus (first | (simp; done) | omega | (simp; omega)))) | (with_reducible refine drew_heap ?_) | (with_reducible refine drewN_heap ?_))); done)); skip) | ((with_reducible apply storeT); rfl; rfl; rfl; rfl; (focus ((repeat' (first | (with_reducible assumption) | ((with_reducible refine heap_last ?_); (focus (first | (simp; done) | omega | (simp; omega)))) | ((with_reducible refine heap_prev ?_ ?_); (focus (first | (simp; done) | omega | (simp; omega)))) | (with_reducible apply row_heap) | ((with_reducible apply tab_set); (focus (first | (simp; done) | omega | (simp; omega)))) | ((with_reducible refine sign_other ?_ ?_); (focus (first | (simp; done) | omega | (simp; omega)))) | ((with_reducible refine row_other ?_ ?_); (focus (first | (simp; done) | omega | (simp; omega)))) | (with_reducible refine drew_heap ?_) | (with_reducible refine drewN_heap ?_))); done)); skip) | ((with_reducible refine HF.out.mono ?_); rintro e v1 ⟨rfl, hq1⟩; have f2 := Co.Tch.blk hq1.out.1 g2 (show w.heap.size ≠ q by omega)))
          refine bodyPost_ret (retT2 rfl _ _ w.heap.size rfl 0 none 0 0 35 (row_heap f2) _ rfl) rfl ?_
          exact ⟨none, 0, [], rfl, Lib.hid ⟨Sm.zero, Nat.zero_le _, RL.nil _ _, tch_row (hT.out.trans hq1.out.1) (Nat.le_refl _) _, rr_below hq1.out.2 (Below.row (Below.refl w.heap.size v1) (Nat.le_refl _) _) hql⟩⟩
end Go.Proofs.Ythbocddkomhpoaa
