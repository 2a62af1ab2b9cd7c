/- share: Total; numbers in a block of one's own; the closure that hands out. -/
import Derived.Test.YthpgbghcmfjjoaaShQ
import Derived.Test.YthpgbghcmfjjoaaLiA
import Derived.Test.YthpgbghcmfjjoaaOrO
import Derived.Deep.LoopGhost
namespace Go.Proofs.Ythpgbghcmfjjoaa
open Go.RowKit Go.Lib

/-- The quantities of orders. -/
def qs (L : List Od) : List Int := L.map (·.qty)
theorem qs_len (L : List Od) : (qs L).length = L.length := List.length_map ..
theorem qs_get (L : List Od) (k : Nat) (h : k < L.length) : (qs L).getD k 0 = L[k]!.qty := by
  unfold qs
  rw [List.getD_eq_getElem?_getD, List.getElem?_map, List.getElem?_eq_getElem h, getElem!_pos L k h]; rfl
theorem okQ_snoc {Q : List Int} {k : Nat} (h : OkQ (Q.take k)) (hk : k < Q.length) (hq : 0 ≤ Q.getD k 0 ∧ Q.getD k 0 ≤ 1099511627776) : OkQ (Q.take (k + 1)) := by
  intro q hm
  rw [List.take_succ_eq_append_getElem hk, List.mem_append] at hm
  rcases hm with hm | hm
  · exact h q hm
  · rw [List.mem_singleton.1 hm]
    rw [List.getD_eq_getElem?_getD, List.getElem?_eq_getElem hk] at hq
    exact hq
theorem totN_bad {Q : List Int} {lot : Int} {k : Nat} (hk : k < Q.length) (hq : ¬ (0 ≤ Q.getD k 0 ∧ Q.getD k 0 ≤ 1099511627776)) : totN Q lot = 0 := by
  unfold totN
  refine if_pos (.inr (.inr (.inr fun h => hq ?_)))
  rw [List.getD_eq_getElem?_getD, List.getElem?_eq_getElem hk]
  exact h _ (List.getElem_mem hk)
theorem totN_good {Q : List Int} {lot : Int} (h1 : 1 ≤ lot) (h2 : lot ≤ 1099511627776) (h3 : Q.length ≤ 64) (hq : OkQ Q) : totN Q lot = sumT lot Q := by
  unfold totN
  exact if_neg (fun h => by rcases h with h | h | h | h; omega; omega; omega; exact h hq)
theorem sumT_step {lot : Int} {Q : List Int} {k : Nat} (h1 : 1 ≤ lot) (hk : k < Q.length) (hl : Q.length ≤ 64) (ho : OkQ (Q.take k)) (hq : 0 ≤ Q.getD k 0 ∧ Q.getD k 0 ≤ 1099511627776) :
    (0 ≤ sumT lot (Q.take k) ∧ sumT lot (Q.take k) ≤ 70368744177664) ∧ (0 ≤ trimN lot (Q.getD k 0) ∧ trimN lot (Q.getD k 0) ≤ 1099511627776) ∧ sumT lot (Q.take (k + 1)) = sumT lot (Q.take k) + trimN lot (Q.getD k 0) := by
  have a := sumT_bd h1 ho
  have b := trim_rng h1 hq.1
  have c : (Q.take k).length ≤ 64 := by simp; omega
  refine ⟨⟨a.1, by omega⟩, ⟨b.1, by omega⟩, sumT_take lot Q k hk⟩

set_option maxHeartbeats 4000000 in
set_option maxRecDepth 100000 in
theorem total_c (A : Option Addr) (n c : Nat) (L : List Od) (lot : Int) (hlot : InR lot) (w : World) (H : Ods w A n L) (hn : n ≤ 1000) :
    Calls Try.prog 11 #[.slice A n c, .int .i64 lot] w fun e w' => e = .returned (.int .i64 (totN (qs L) lot)) ∧ Below w.heap.size w w' := by
  have HO : Aside (Ods w A n L) := H
  have HLn := Lib.hid H.1
  clear H
  obtain ⟨T, hT⟩ : ∃ T, T = totN (qs L) lot := ⟨_, rfl⟩
  rw [← hT]
  have HT := Lib.hid hT
  clear hT
  by_cases h1 : lot < 1
  · have h : Hid (T = 0) := Lib.hid (HT.out.trans (if_pos (.inl h1)))
    clear HT
    go_enter Try.func11, Try.ntmps11
    go_wp2_with fail
    go_ret
    rw [h.out]; exact ⟨rfl, Below.refl _ _⟩
  by_cases h2 : 1099511627776 < lot
  · have h : Hid (T = 0) := Lib.hid (HT.out.trans (if_pos (.inr (.inl h2))))
    clear HT
    go_enter Try.func11, Try.ntmps11
    go_wp2_with fail
    go_ret
    rw [h.out]; exact ⟨rfl, Below.refl _ _⟩
  by_cases h3 : 64 < n
  · have h : Hid (T = 0) := Lib.hid (HT.out.trans (if_pos (.inr (.inr (.inl (by rw [qs_len, HLn.out]; exact h3))))))
    clear HT
    have h3I : (64 : Int) < (n : Int) := by omega
    go_enter Try.func11, Try.ntmps11
    go_wp2_with fail
    go_ret
    rw [h.out]; exact ⟨rfl, Below.refl _ _⟩
  have g1 : 1 ≤ lot := by omega
  have g2 : lot ≤ 1099511627776 := by omega
  have g3 : ¬ (64 : Int) < (n : Int) := by omega
  have g4 : n ≤ 64 := by omega
  clear h1 h2 h3
  go_enter Try.func11, Try.ntmps11
  go_wp2_with fail
  go_loopg [5, 21] n (fun kx s5 s21 wr => ∃ k : Nat, s21 = .int .i64 k ∧ k ≤ n ∧ n - k ≤ kx ∧ s5 = .int .i64 (sumT lot ((qs L).take k)) ∧ Hid (OkQ ((qs L).take k)) ∧ Hid (Below w.heap.size w wr))
  case atStart => exact ⟨0, rfl, by omega, by omega, rfl, Lib.hid (fun q h => by simp at h), Lib.hid (Below.refl _ _)⟩
  case round =>
    obtain ⟨k, rfl, hk, hkx, rfl, hok, hd⟩ := hrel
    by_cases hlt : k < n
    · have hltI : (k : Int) < (n : Int) := by omega
      have h1 := (HO.out.below hd.out).2.2.2
      rcases h1 with h1 | ⟨b, off, rfl, _, hc⟩
      · omega
      have hx := hc k hlt
      clear hc
      have hxk := (HO.out.below hd.out).2.2.1
      have HQ := Lib.hid (qs_get L k (by rw [HLn.out]; exact hlt))
      obtain ⟨x, ex⟩ : ∃ x, L[k]! = x := ⟨_, rfl⟩
      rw [ex] at hx HQ
      clear ex hxk
      obtain ⟨x0, x1, x2, x3, x4, x5⟩ := hx
      have hsz := hd.out.size
      by_cases q1 : x.qty < 0
      · have h : Hid (T = 0) := Lib.hid (HT.out.trans (totN_bad (k := k) (by rw [qs_len, HLn.out]; exact hlt) (by rw [HQ.out]; omega)))
        have hB : Hid (Below w.heap.size w (wr.alloc (Obj.cells #[.int .u64 x.id, .int .i64 x.acc, .int .i64 x.side, .int .i64 x.price, .int .i64 x.qty, .int .u64 x.seq] 35))) := Lib.hid (hd.out.alloc hsz _)
        clear hok HT HQ hd
        go_wp2_with fail
        go_ret
        rw [h.out]; exact ⟨rfl, hB.out⟩
      by_cases q2 : 1099511627776 < x.qty
      · have h : Hid (T = 0) := Lib.hid (HT.out.trans (totN_bad (k := k) (by rw [qs_len, HLn.out]; exact hlt) (by rw [HQ.out]; omega)))
        have hB : Hid (Below w.heap.size w (wr.alloc (Obj.cells #[.int .u64 x.id, .int .i64 x.acc, .int .i64 x.side, .int .i64 x.price, .int .i64 x.qty, .int .u64 x.seq] 35))) := Lib.hid (hd.out.alloc hsz _)
        clear hok HT HQ hd
        go_wp2_with fail
        go_ret
        rw [h.out]; exact ⟨rfl, hB.out⟩
      have q3 : 0 ≤ x.qty := by omega
      have q4 : x.qty ≤ 1099511627776 := by omega
      have hst := sumT_step (lot := lot) (Q := qs L) (k := k) g1 (by rw [qs_len, HLn.out]; exact hlt) (by rw [qs_len, HLn.out]; exact g4) hok.out (by rw [HQ.out]; exact ⟨q3, q4⟩)
      rw [HQ.out] at hst
      obtain ⟨⟨s1, s2⟩, ⟨t1, t2⟩, hs⟩ := hst
      have hok2 : Hid (OkQ ((qs L).take (k + 1))) := Lib.hid (okQ_snoc hok.out (by rw [qs_len, HLn.out]; exact hlt) (by rw [HQ.out]; exact ⟨q3, q4⟩))
      have HTr : Hid (∀ w, Calls Try.prog 13 #[.int .i64 lot, .int .i64 x.qty] w fun e w' => e = .returned (.int .i64 (trimN lot x.qty)) ∧ w = w') := Lib.hid (fun w => trim_c lot x.qty ⟨by omega, by omega⟩ hlot w)
      generalize sumT lot ((qs L).take k) = S at *
      generalize trimN lot x.qty = t at *
      have HS := Lib.hid hs
      have hB : Hid (Below w.heap.size w (wr.alloc (Obj.cells #[.int .u64 x.id, .int .i64 x.acc, .int .i64 x.side, .int .i64 x.price, .int .i64 x.qty, .int .u64 x.seq] 35))) := Lib.hid (hd.out.alloc hsz _)
      clear hok HQ hd hs hlot
      go_wp2_with ((with_reducible refine (HTr.out _).mono ?_); rintro e w' ⟨rfl, rfl⟩)
      go_roundg (n - (k + 1))
      case measure => omega
      case rel => exact ⟨k + 1, by go_num, by omega, by omega, by rw [HS.out], hok2, hB⟩
    · have hltI : ¬ (k : Int) < (n : Int) := by omega
      obtain rfl : k = n := by omega
      have h : Hid (T = sumT lot ((qs L).take k)) := by
        have e : (qs L).take k = qs L := List.take_of_length_le (by rw [qs_len, HLn.out]; exact Nat.le_refl _)
        have ho := hok.out
        rw [e] at ho ⊢
        exact Lib.hid (HT.out.trans (totN_good g1 g2 (by rw [qs_len, HLn.out]; exact g4) ho))
      generalize sumT lot ((qs L).take k) = S at *
      clear hok HT
      go_wp2_with fail
      go_ret
      rw [h.out]; exact ⟨rfl, hd.out⟩
end Go.Proofs.Ythpgbghcmfjjoaa
