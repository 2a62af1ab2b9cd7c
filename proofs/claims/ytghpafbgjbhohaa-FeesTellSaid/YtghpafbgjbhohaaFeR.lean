/- fees, the reference: a table, copied. -/
import Derived.Test.YtghpafbgjbhohaaFeA
import Derived.Maps.AppendAt
namespace Go.Proofs.Ytghpafbgjbhohaa
open Go.RowKit

def tiC (ts : List Ti) : List Value := ts.flatMap fun x => [.int .i64 x.f, .int .i64 x.m, .int .i64 x.k]
theorem tiC_len (ts : List Ti) : (tiC ts).length = ts.length * 3 := by
  induction ts with
  | nil => rfl
  | cons x xs ih => simp only [tiC, List.flatMap_cons, List.length_append, List.length_cons, List.length_nil] at ih ⊢; omega
theorem tiC_at : ∀ (ts : List Ti) (i : Nat), i < ts.length → (tiC ts)[i * 3]? = some (.int .i64 (TF ts i)) ∧ (tiC ts)[i * 3 + 1]? = some (.int .i64 (TM ts i)) ∧ (tiC ts)[i * 3 + 2]? = some (.int .i64 (TK ts i))
  | x :: xs, 0, _ => ⟨rfl, rfl, rfl⟩
  | x :: xs, i + 1, h => by
    have ih := tiC_at xs i (by simpa using h)
    have e : tiC (x :: xs) = [.int .i64 x.f, .int .i64 x.m, .int .i64 x.k] ++ tiC xs := rfl
    rw [e]
    refine ⟨?_, ?_, ?_⟩
    · rw [show (i + 1) * 3 = i * 3 + 3 by omega]; exact ih.1
    · rw [show (i + 1) * 3 + 1 = i * 3 + 1 + 3 by omega]; exact ih.2.1
    · rw [show (i + 1) * 3 + 2 = i * 3 + 2 + 3 by omega]; exact ih.2.2
theorem info_ri : (Try.prog.info? 40).map (fun i => (i.zero, i.size, i.bytes)) = some (some (.agg #[.int .i64 0, .int .i64 0, .int .i64 0]), 3, 24) := by kernel_rfl
/-- A row of the call's own reads as a table. -/
theorem own_tis {w : World} {base n : Nat} {v : Value} {ts : List Ti} (h : w.ownsRow base 40 3 v n (tiC ts)) (hn : n ≤ 1000) (hok : ∀ x ∈ ts, Ti.ok w x) : ∃ A c, v = .slice A n c ∧ n ≤ c ∧ Tis w A n ts := by
  obtain ⟨h1, h2⟩ := h
  rw [tiC_len] at h1
  have hl : ts.length = n := by omega
  rcases h2 with ⟨hv, h0⟩ | ⟨k, cap, cur, hv, _, hk, hc, hm, hs, ht⟩
  · subst h0; exact ⟨none, 0, hv, Nat.le_refl _, hl, by omega, hok, .inl rfl⟩
  · refine ⟨_, _, hv, hc, hl, by omega, hok, .inr ⟨k, 0, rfl, blk_lt hk, fun i hi => ?_⟩⟩
    obtain ⟨t0, t1, t2⟩ := tiC_at ts i (by omega)
    have hcell : ∀ j v, (tiC ts)[j]? = some v → w.cell? ⟨k, 0 + j, none⟩ = some v := by
      intro j v hj
      rw [← ht, List.getElem?_take] at hj
      split at hj
      · rw [Array.getElem?_toList] at hj
        rw [Nat.zero_add, cell_of_row _ _ _ _ _ _ hk, hj]
      · cases hj
    refine ⟨?_, ?_, ?_⟩
    · rw [getTF]; exact hcell _ _ t0
    · rw [getTM]; exact hcell _ _ t1
    · rw [getTK]; exact hcell _ _ t2

theorem three_news (w : World) (f m x : Int) : ∀ (j : Nat) (u : Value), [Value.int .i64 f, .int .i64 m, .int .i64 x][j]? = some u → (w.alloc (Obj.cells #[.int .i64 f, .int .i64 m, .int .i64 x] 40)).cell? ((⟨w.heap.size, 0, none⟩ : Addr).add j) = some u := by
  intro j u hu
  rw [addr_add, cell_of_row _ _ _ _ _ _ (heap_alloc_new w _)]
  match j, hu with
  | 0, hu => simpa using hu
  | 1, hu => simpa using hu
  | 2, hu => simpa using hu
theorem three_one (f m x : Int) : ∀ u ∈ [Value.int .i64 f, .int .i64 m, .int .i64 x], u.oneCell' = true := by
  intro u hu
  simp at hu
  rcases hu with rfl | rfl | rfl <;> rfl
theorem tiC_snoc {ts : List Ti} {k : Nat} (h : k < ts.length) : tiC (ts.take (k + 1)) = tiC (ts.take k) ++ [.int .i64 (TF ts k), .int .i64 (TM ts k), .int .i64 (TK ts k)] := by
  unfold tiC
  rw [List.take_succ_eq_append_getElem h, List.flatMap_append]
  unfold TF TM TK
  rw [List.getD_eq_getElem?_getD, List.getElem?_eq_getElem h]
  rfl

/-- The reference's table. -/
def CopiedT (w : World) (t : List Ti) (e : Ending) (w' : World) : Prop := ∃ A n c, e = .returned (.slice A n c) ∧ Hid (Below w.heap.size w w' ∧ Tis w' A n (t.take 9) ∧ n ≤ 9 ∧ n ≤ c)

set_option maxHeartbeats 4000000 in
set_option maxRecDepth 100000 in
theorem plain_c (a : Option Addr) (len cap : Nat) (t : List Ti) (w : World) (h : Tis w a len t) :
    Calls Try.prog 18 #[.slice a len cap] w (CopiedT w t) := by
  obtain ⟨i0, hi0, hz0, hz1, hz2⟩ := info_parts info_ri
  have HT := Lib.hid h
  have hm := h.2.1
  have hmI : (len : Int) ≤ 9223372036854775807 := by omega
  have HL := Lib.hid h.1
  clear h hm
  go_enter Try.func18, Try.ntmps18
  go_wp2_with fail
  go_loopw [3, 4] (fun v i wr => ∃ k : Nat, k ≤ len ∧ k ≤ 9 ∧ i = .int .i64 (k : Int) ∧ wr.ownsRow w.heap.size 40 3 v k (tiC (t.take k)) ∧ Hid (Below w.heap.size w wr)) (fun _ i _ => 9 - (intOf i).toNat)
  case atStart => exact ⟨0, by omega, by omega, rfl, World.ownsRow_nil _ _ _ _, Below.refl _ _⟩
  case round =>
    obtain ⟨k, hk, hk9, rfl, hown, hd⟩ := hrel
    have hk0 : (0 : Int) ≤ (k : Int) := by omega
    by_cases hlt : k < len
    · have hltI : (k : Int) < (len : Int) := by omega
      by_cases h9 : k < 9
      · have h9I : (k : Int) < 9 := by omega
        obtain ⟨b, off, rfl, hb, p0, p1, p2, _⟩ := (HT.out.below hd.out).row hlt
        have HN := Lib.hid (tiC_snoc (ts := t) (k := k) (by rw [HL.out]; exact hlt))
        have hsz := hd.out.size
        obtain ⟨f, hf⟩ : ∃ f, f = TF t k := ⟨_, rfl⟩
        obtain ⟨m, hmm⟩ : ∃ m, m = TM t k := ⟨_, rfl⟩
        obtain ⟨x, hx⟩ : ∃ x, x = TK t k := ⟨_, rfl⟩
        rw [← hf] at p0 HN
        rw [← hmm] at p1 HN
        rw [← hx] at p2 HN
        clear hf hmm hx
        go_wp2_with (at_builtin; refine wpList_append_own _ rfl _ _ 35 rfl w.heap.size 40 i0 (.agg #[.int .i64 0, .int .i64 0, .int .i64 0]) 3 24 Try.underlying35 hi0 hz0 hz1 hz2 rfl (by decide) _ _ _ rfl (hown.alloc _) ⟨wr.heap.size, 0, none⟩ 1 1 [.int .i64 f, .int .i64 m, .int .i64 x] rfl rfl ?c1 ?c2 ?c3 ?c4 ?c5 ?_)
        case c1 => exact three_news _ f m x
        case c2 => exact three_one f m x
        case c3 => unfold maxLen; omega
        case c4 => omega
        case c5 => simp; omega
        intro v1 w1 hown1 hg1 _
        have hB1 : Hid (Below w.heap.size w w1) := Below.grown (hd.out.alloc hsz _) hg1 (by simp; omega) (fun k hk => (hown.lt k hk).1)
        rw [← HN.out] at hown1
        clear hg1 hown hd
        go_wp2_with fail
        exact ⟨⟨k + 1, by omega, by omega, by go_num, hown1, hB1.out⟩, by simp [intOf]; omega⟩
      · obtain rfl : k = 9 := by omega
        obtain ⟨A, c, rfl, hc, ht⟩ := own_tis hown (by omega) (fun x hx => (HT.out.below hd.out).2.2.1 x (List.mem_of_mem_take hx))
        have HF : Hid (Below w.heap.size w wr ∧ Tis wr A 9 (t.take 9) ∧ 9 ≤ 9 ∧ 9 ≤ c) := ⟨hd.out, ht, Nat.le_refl _, hc⟩
        clear hown ht hd hk9 h9
        go_wp2_with fail
        go_ret
        exact ⟨A, 9, c, rfl, HF.out⟩
    · obtain rfl : k = len := by omega
      obtain ⟨A, c, rfl, hc, ht⟩ := own_tis hown (by omega) (fun x hx => (HT.out.below hd.out).2.2.1 x (List.mem_of_mem_take hx))
      have HF : Hid (Below w.heap.size w wr ∧ Tis wr A k (t.take 9) ∧ k ≤ 9 ∧ k ≤ c) := by
        refine ⟨hd.out, ?_, hk9, hc⟩
        rw [List.take_of_length_le (by rw [HL.out]; exact hk9)]
        rw [List.take_of_length_le (by rw [HL.out]; exact Nat.le_refl _)] at ht
        exact ht
      clear hown ht hd
      go_wp2_with fail
      go_ret
      exact ⟨A, k, c, rfl, HF.out⟩
end Go.Proofs.Ytghpafbgjbhohaa
