/- grid, the reference: a table, copied; whether it may be. -/
import Derived.Test.YtacfboopkcaobabGrH
import Derived.Maps.AppendAt
namespace Go.Proofs.Ytacfboopkcaobab
open Go.RowKit

def tkC (ts : List Tk) : List Value := ts.flatMap fun x => [.int .i64 x.f, .int .i64 x.s]
theorem tkC_len (ts : List Tk) : (tkC ts).length = ts.length * 2 := by
  induction ts with
  | nil => rfl
  | cons x xs ih => simp only [tkC, List.flatMap_cons, List.length_append, List.length_cons, List.length_nil] at ih ⊢; omega
theorem tkC_at : ∀ (ts : List Tk) (i : Nat), i < ts.length → (tkC ts)[i * 2]? = some (.int .i64 (F ts i)) ∧ (tkC ts)[i * 2 + 1]? = some (.int .i64 (S ts i))
  | x :: xs, 0, _ => ⟨rfl, rfl⟩
  | x :: xs, i + 1, h => by
    have ih := tkC_at xs i (by simpa using h)
    have e : tkC (x :: xs) = [.int .i64 x.f, .int .i64 x.s] ++ tkC xs := rfl
    rw [e]
    refine ⟨?_, ?_⟩
    · rw [show (i + 1) * 2 = i * 2 + 2 by omega]; exact ih.1
    · rw [show (i + 1) * 2 + 1 = i * 2 + 1 + 2 by omega]; exact ih.2
theorem info_rt : (Try.prog.info? 62).map (fun i => (i.zero, i.size, i.bytes)) = some (some (.agg #[.int .i64 0, .int .i64 0]), 2, 16) := by kernel_rfl
/-- A row of the call's own reads as a table. -/
theorem own_tks {w : World} {base n : Nat} {v : Value} {ts : List Tk} (h : w.ownsRow base 62 2 v n (tkC ts)) (hn : n ≤ 1000) (hok : ∀ x ∈ ts, Tk.ok w x) : ∃ A c, v = .slice A n c ∧ n ≤ c ∧ Tks w A n ts := by
  obtain ⟨h1, h2⟩ := h
  rw [tkC_len] at h1
  have hl : ts.length = n := by omega
  rcases h2 with ⟨hv, h0⟩ | ⟨k, cap, cur, hv, _, hk, hc, hm, hs, ht⟩
  · subst h0; exact ⟨none, 0, hv, Nat.le_refl _, hl, by omega, hok, .inl rfl⟩
  · refine ⟨_, _, hv, hc, hl, by omega, hok, .inr ⟨k, 0, rfl, blk_lt hk, fun i hi => ?_⟩⟩
    obtain ⟨t0, t1⟩ := tkC_at ts i (by omega)
    have hcell : ∀ j v, (tkC ts)[j]? = some v → w.cell? ⟨k, 0 + j, none⟩ = some v := by
      intro j v hj
      rw [← ht, List.getElem?_take] at hj
      split at hj
      · rw [Array.getElem?_toList] at hj
        rw [Nat.zero_add, cell_of_row _ _ _ _ _ _ hk, hj]
      · cases hj
    refine ⟨?_, ?_⟩
    · rw [getF]; exact hcell _ _ t0
    · rw [getS]; exact hcell _ _ t1

theorem two_news (w : World) (f s : Int) : ∀ (j : Nat) (u : Value), [Value.int .i64 f, .int .i64 s][j]? = some u → (w.alloc (Obj.cells #[.int .i64 f, .int .i64 s] 62)).cell? ((⟨w.heap.size, 0, none⟩ : Addr).add j) = some u := by
  intro j u hu
  rw [addr_add, cell_of_row _ _ _ _ _ _ (heap_alloc_new w _)]
  match j, hu with
  | 0, hu => simpa using hu
  | 1, hu => simpa using hu
theorem two_one (f s : Int) : ∀ u ∈ [Value.int .i64 f, .int .i64 s], u.oneCell' = true := by
  intro u hu
  simp at hu
  rcases hu with rfl | rfl <;> rfl
theorem tkC_snoc {ts : List Tk} {k : Nat} (h : k < ts.length) : tkC (ts.take (k + 1)) = tkC (ts.take k) ++ [.int .i64 (F ts k), .int .i64 (S ts k)] := by
  unfold tkC
  rw [List.take_succ_eq_append_getElem h, List.flatMap_append]
  unfold F S
  rw [List.getD_eq_getElem?_getD, List.getElem?_eq_getElem h]
  rfl

/-- The reference's table. -/
def Copied (w : World) (t : List Tk) (e : Ending) (w' : World) : Prop := ∃ A n c, e = .returned (.slice A n c) ∧ Hid (Below w.heap.size w w' ∧ Tks w' A n (t.take 9) ∧ n ≤ 9 ∧ n ≤ c)

set_option maxHeartbeats 4000000 in
set_option maxRecDepth 100000 in
theorem plain_c (a : Option Addr) (len cap : Nat) (t : List Tk) (w : World) (h : Tks w a len t) :
    Calls Try.prog 18 #[.slice a len cap] w (Copied w t) := by
  obtain ⟨i0, hi0, hz0, hz1, hz2⟩ := info_parts info_rt
  have HT := Lib.hid h
  have hm := h.2.1
  have hmI : (len : Int) ≤ 9223372036854775807 := by omega
  have HL := Lib.hid h.1
  clear h hm
  go_enter Try.func18, Try.ntmps18
  go_wp2_with fail
  go_loopw [3, 4] (fun v i wr => ∃ k : Nat, k ≤ len ∧ k ≤ 9 ∧ i = .int .i64 (k : Int) ∧ wr.ownsRow w.heap.size 62 2 v k (tkC (t.take k)) ∧ Hid (Below w.heap.size w wr)) (fun _ i _ => 9 - (intOf i).toNat)
  case atStart => exact ⟨0, by omega, by omega, rfl, World.ownsRow_nil _ _ _ _, Below.refl _ _⟩
  case round =>
    obtain ⟨k, hk, hk9, rfl, hown, hd⟩ := hrel
    have hk0 : (0 : Int) ≤ (k : Int) := by omega
    by_cases hlt : k < len
    · have hltI : (k : Int) < (len : Int) := by omega
      by_cases h9 : k < 9
      · have h9I : (k : Int) < 9 := by omega
        obtain ⟨b, off, rfl, hb, p0, p1, _, _⟩ := (HT.out.below hd.out).row hlt
        have HN := Lib.hid (tkC_snoc (ts := t) (k := k) (by rw [HL.out]; exact hlt))
        have hsz := hd.out.size
        obtain ⟨f, hf⟩ : ∃ f, f = F t k := ⟨_, rfl⟩
        obtain ⟨s, hs⟩ : ∃ s, s = S t k := ⟨_, rfl⟩
        rw [← hf] at p0 HN
        rw [← hs] at p1 HN
        clear hf hs
        go_wp2_with (at_builtin; refine wpList_append_own _ rfl _ _ 43 rfl w.heap.size 62 i0 (.agg #[.int .i64 0, .int .i64 0]) 2 16 Try.underlying43 hi0 hz0 hz1 hz2 rfl (by decide) _ _ _ rfl (hown.alloc _) ⟨wr.heap.size, 0, none⟩ 1 1 [.int .i64 f, .int .i64 s] rfl rfl ?c1 ?c2 ?c3 ?c4 ?c5 ?_)
        case c1 => exact two_news _ f s
        case c2 => exact two_one f s
        case c3 => unfold maxLen; omega
        case c4 => omega
        case c5 => simp; omega
        intro v1 w1 hown1 hg1 _
        have hB1 : Hid (Below w.heap.size w w1) := Below.grown (hd.out.alloc hsz _) hg1 (by simp; omega) (fun k hk => (hown.lt k hk).1)
        rw [← HN.out] at hown1
        clear hg1 hown hd
        go_wp2_with fail
        exact ⟨⟨k + 1, by omega, by omega, by go_num, hown1, hB1.out⟩, by simp [intOf]; omega⟩
      · obtain rfl : k = 9 := by omega
        obtain ⟨A, c, rfl, hc, ht⟩ := own_tks hown (by omega) (fun x hx => (HT.out.below hd.out).2.2.1 x (List.mem_of_mem_take hx))
        have HF : Hid (Below w.heap.size w wr ∧ Tks wr A 9 (t.take 9) ∧ 9 ≤ 9 ∧ 9 ≤ c) := ⟨hd.out, ht, Nat.le_refl _, hc⟩
        clear hown ht hd hk9 h9
        go_wp2_with fail
        go_ret
        exact ⟨A, 9, c, rfl, HF.out⟩
    · obtain rfl : k = len := by omega
      obtain ⟨A, c, rfl, hc, ht⟩ := own_tks hown (by omega) (fun x hx => (HT.out.below hd.out).2.2.1 x (List.mem_of_mem_take hx))
      have HF : Hid (Below w.heap.size w wr ∧ Tks wr A k (t.take 9) ∧ k ≤ 9 ∧ k ≤ c) := by
        refine ⟨hd.out, ?_, hk9, hc⟩
        rw [List.take_of_length_le (by rw [HL.out]; exact hk9)]
        rw [List.take_of_length_le (by rw [HL.out]; exact Nat.le_refl _)] at ht
        exact ht
      clear hown ht hd
      go_wp2_with fail
      go_ret
      exact ⟨A, k, c, rfl, HF.out⟩
end Go.Proofs.Ytacfboopkcaobab
