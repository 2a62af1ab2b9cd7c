/- share: the law's Plain, the reference's Total. (By mkshr.py.) -/
import Derived.Test.YthpgbghcmfjjoaaShE
import Derived.Test.YthpgbghcmfjjoaaRefO
import Derived.Maps.AppendAt
namespace Go.Proofs.Ythpgbghcmfjjoaa
open Go.RowKit Go.Lib
set_option linter.unusedVariables false

set_option maxHeartbeats 4000000 in
set_option maxRecDepth 100000 in
theorem rTrim_c (lot qty : Int) (hq : InR qty) (hl : InR lot) (w : World) :
    Calls Try.prog 16 #[.int .i64 lot, .int .i64 qty] w fun e w' => e = .returned (.int .i64 (trimN lot qty)) ∧ w = w' := by
  by_cases h1 : lot < 1
  · have h : Hid (trimN lot qty = 0) := by show _ = _; unfold trimN; rw [if_pos (.inl h1)]
    go_enter Try.func16, Try.ntmps16
    go_wp2_with fail
    go_ret
    rw [h.out]; exact ⟨rfl, rfl⟩
  by_cases h2 : qty < 1
  · have h : Hid (trimN lot qty = 0) := by show _ = _; unfold trimN; rw [if_pos (.inr h2)]
    go_enter Try.func16, Try.ntmps16
    go_wp2_with fail
    go_ret
    rw [h.out]; exact ⟨rfl, rfl⟩
  have ht := trim_bd (lot := lot) (qty := qty) (by omega) (by omega)
  obtain ⟨t, htt⟩ : ∃ t, t = trimN lot qty := ⟨_, rfl⟩
  rw [← htt] at ht ⊢
  obtain ⟨t0, t1, _, _, t4⟩ := ht
  have H5 : Hid (qty - qty % lot = t) := t4.symm
  have hq2 : qty / lot ≤ qty := Int.ediv_le_self _ (by omega)
  have hq3 : 0 ≤ qty / lot := Int.ediv_nonneg (by omega) (by omega)
  have g1 : 1 ≤ lot := by omega
  have g3 : 1 ≤ qty := by omega
  have g5 : (lot == 0) = false := by simp; omega
  have g6 : 0 ≤ qty := by omega
  have g7 : qty ≤ 9223372036854775807 := hq.2
  have g8 : lot ≤ 9223372036854775807 := hl.2
  have e1 : IntKind.i64.wrap (qty / lot * lot) = qty - qty % lot := by
    have hm := Int.mul_ediv_add_emod qty lot
    rw [Int.mul_comm] at hm
    have h0 := H5.out
    generalize qty / lot * lot = y at *
    generalize qty % lot = z at *
    rw [IntKind.wrap_i64]; omega
  clear h1 h2 hq hl htt t4
  go_enter Try.func16, Try.ntmps16
  go_wp2_with fail
  go_ret
  refine ⟨?_, rfl⟩
  show Ending.returned (Value.int IntKind.i64 (qty - qty % lot)) = _
  rw [H5.out]

/-- An order's cells. -/
def encO (x : Od) : List Value := [.int .u64 x.id, .int .i64 x.acc, .int .i64 x.side, .int .i64 x.price, .int .i64 x.qty, .int .u64 x.seq]
abbrev Dd := Od × Nat
def encD (x : Dd) : List Value := encO x.1
theorem encD_len (x : Dd) : (encD x).length = 6 := rfl
theorem encD_one (x : Dd) : ∀ v ∈ encD x, v.oneCell' = true := by
  intro v hv
  simp only [encD, encO, List.mem_cons, List.not_mem_nil, or_false] at hv
  rcases hv with rfl | rfl | rfl | rfl | rfl | rfl <;> rfl
abbrev OC (x : Od) : Array Value := #[.int .u64 x.id, .int .i64 x.acc, .int .i64 x.side, .int .i64 x.price, .int .i64 x.qty, .int .u64 x.seq]
def ol (L : List Od) : List Value := L.flatMap encO
theorem ol_len (L : List Od) : (ol L).length = L.length * 6 := by
  induction L with
  | nil => rfl
  | cons x l ih => rw [ol, List.flatMap_cons, List.length_append, ← ol, ih, List.length_cons]; show 6 + _ = _; omega
theorem ol_get : ∀ (L : List Od) (i c : Nat), i < L.length → c < 6 → (ol L)[i * 6 + c]? = (encO L[i]!)[c]?
  | [], i, c, hi, _ => by simp at hi
  | x :: l, 0, c, _, hc => by
    rw [ol, List.flatMap_cons, List.getElem?_append_left (by show _ < 6; omega), Nat.zero_mul, Nat.zero_add]; rfl
  | x :: l, i + 1, c, hi, hc => by
    rw [ol, List.flatMap_cons, List.getElem?_append_right (by show 6 ≤ _; omega), ← ol]
    have : (i + 1) * 6 + c - (encO x).length = i * 6 + c := by show _ - 6 = _; omega
    rw [this, ol_get l i c (by simpa using hi) hc]
    rfl
/-- The capacity; of nil: none. -/
def CapOk (A : Option Addr) (n c : Nat) : Prop := n ≤ c ∧ (A = none → c = 0)
/-- A row of the call's own reads as orders. -/
theorem own_ods {w : World} {base n : Nat} {T : TypeId} {v : Value} {L : List Od} (h : w.ownsRow base T 6 v n (ol L)) (hn : n ≤ 1000) (hok : ∀ x ∈ L, Od.ok w x) : ∃ A c, v = .slice A n c ∧ CapOk A n c ∧ Ods w A n L := by
  obtain ⟨h1, h2⟩ := h
  rw [ol_len] at h1
  have hl : L.length = n := by omega
  rcases h2 with ⟨hv, h0⟩ | ⟨k, cap, cur, hv, _, hk, hc, hm, hs, ht⟩
  · subst h0; exact ⟨none, 0, hv, ⟨Nat.le_refl _, fun _ => rfl⟩, hl, by omega, hok, .inl rfl⟩
  · refine ⟨_, _, hv, ⟨hc, fun h => by cases h⟩, hl, by omega, hok, .inr ⟨k, 0, rfl, blk_lt hk, fun i hi => ?_⟩⟩
    have hcell : ∀ j v, (ol L)[j]? = some v → w.cell? ⟨k, 0 + j, none⟩ = some v := by
      intro j v hj
      rw [← ht, List.getElem?_take] at hj
      split at hj
      · rw [Array.getElem?_toList] at hj
        rw [Nat.zero_add, cell_of_row _ _ _ _ _ _ hk, hj]
      · cases hj
    have g : ∀ c v, c < 6 → (encO L[i]!)[c]? = some v → w.cell? ⟨k, 0 + i * 6 + c, none⟩ = some v := fun c v hc hv => by
      rw [Nat.add_assoc]
      exact hcell (i * 6 + c) v ((ol_get L i c (by omega) hc).trans hv)
    exact ⟨g 0 _ (by omega) rfl, g 1 _ (by omega) rfl, g 2 _ (by omega) rfl, g 3 _ (by omega) rfl, g 4 _ (by omega) rfl, g 5 _ (by omega) rfl⟩
theorem ol_snoc {L : List Od} {k : Nat} (h : k < L.length) : ol (L.take (k + 1)) = ol (L.take k) ++ encO L[k]! := by
  unfold ol
  rw [List.take_succ_eq_append_getElem h, List.flatMap_append, getElem!_pos L k h]
  simp
theorem six_news (w : World) (x : Od) : ∀ (j : Nat) (u : Value), (encO x)[j]? = some u → (w.alloc (Obj.cells (OC x) 37)).cell? ((⟨w.heap.size, 0, none⟩ : Addr).add j) = some u := by
  intro j u hu
  rw [addr_add, cell_of_row _ _ _ _ _ _ (heap_alloc_new w _)]
  match j, hu with
  | 0, hu => simpa [encO] using hu
  | 1, hu => simpa [encO] using hu
  | 2, hu => simpa [encO] using hu
  | 3, hu => simpa [encO] using hu
  | 4, hu => simpa [encO] using hu
  | 5, hu => simpa [encO] using hu
theorem info_ro : (Try.prog.info? 37).map (fun i => (i.zero, i.size, i.bytes)) = some (some (.agg (OC ⟨0, 0, 0, 0, 0, 0⟩)), 6, 48) := by kernel_rfl
theorem enc_one (x : Od) : ∀ u ∈ encO x, u.oneCell' = true := fun u hu => encD_one (x, 0) u hu

/-- Orders that came back in a row of their own. -/
def RowIs (w : World) (L : List Od) (e : Ending) (w' : World) : Prop := ∃ A n c, e = .returned (.slice A n c) ∧ Hid (Below w.heap.size w w' ∧ Ods w' A n L ∧ CapOk A n c)

set_option maxHeartbeats 4000000 in
set_option maxRecDepth 1000000 in
theorem plain_c (A : Option Addr) (n c : Nat) (L : List Od) (w : World) (H : Ods w A n L) (hn : n ≤ 1000) :
    Calls Try.prog 7 #[.slice A n c] w (RowIs w L) := by
  obtain ⟨i0, hi0, hz0, hz1, hz2⟩ := info_parts info_ro
  have HO : Aside (Ods w A n L) := H
  have HLn := Lib.hid H.1
  clear H
  go_enter Try.func7, Try.ntmps7
  go_wp2_with fail
  go_loopg [3, 8] n (fun kx v s8 wr => ∃ k : Nat, s8 = .int .i64 k ∧ k ≤ n ∧ n - k ≤ kx ∧ wr.ownsRow w.heap.size 37 6 v k (ol (L.take k)) ∧ Hid (Below w.heap.size w wr))
  case atStart => exact ⟨0, rfl, by omega, by omega, World.ownsRow_nil _ _ _ _, Below.refl _ _⟩
  case round =>
    obtain ⟨k, rfl, hk, hkx, hown, hd⟩ := hrel
    by_cases hlt : k < n
    · have hltI : (k : Int) < (n : Int) := by omega
      have h1 := (HO.out.below hd.out).2.2.2
      rcases h1 with h1 | ⟨b, off, rfl, _, hc⟩
      · omega
      have hx := hc k hlt
      clear hc
      have HN := Lib.hid (ol_snoc (L := L) (k := k) (by rw [HLn.out]; exact hlt))
      obtain ⟨x, ex⟩ : ∃ x, L[k]! = x := ⟨_, rfl⟩
      rw [ex] at hx HN
      clear ex
      obtain ⟨x0, x1, x2, x3, x4, x5⟩ := hx
      have hsz := hd.out.size
      go_wp2_with (at_builtin; refine wpList_append_own _ rfl _ _ 24 rfl w.heap.size 37 i0 (.agg (OC ⟨0, 0, 0, 0, 0, 0⟩)) 6 48 Try.underlying24 hi0 hz0 hz1 hz2 rfl (by decide) _ _ _ rfl ((hown.alloc (Obj.cells (OC x) 35)).alloc _) ⟨wr.heap.size + 1, 0, none⟩ 1 1 (encO x) rfl rfl ?c1 ?c2 ?c3 ?c4 ?c5 ?_)
      case c1 =>
        have e1 : wr.heap.size + 1 = (wr.alloc (Obj.cells (OC x) 35)).heap.size := by simp
        rw [e1]
        exact six_news _ x
      case c2 => exact enc_one x
      case c3 => unfold maxLen; omega
      case c4 => omega
      case c5 => simp; omega
      intro v1 w1 hown1 hg1 _
      have hB1 : Hid (Below w.heap.size w w1) := Below.grown ((hd.out.alloc hsz _).alloc (by simp; omega) _) hg1 (by simp; omega) (fun k hk => (hown.lt k hk).1)
      rw [← HN.out] at hown1
      clear hg1 hown hd
      go_wp2_with fail
      go_roundg (n - (k + 1))
      case measure => omega
      case rel => exact ⟨k + 1, by go_num, by omega, by omega, hown1, hB1⟩
    · have hltI : ¬ (k : Int) < (n : Int) := by omega
      obtain rfl : k = n := by omega
      rw [List.take_of_length_le (by rw [HLn.out]; exact Nat.le_refl _)] at hown
      obtain ⟨A', c', rfl, hc, ht⟩ := own_ods hown hn (fun x hx => (HO.out.below hd.out).2.2.1 x hx)
      have HF : Hid (Below w.heap.size w wr ∧ Ods wr A' k L ∧ CapOk A' k c') := ⟨hd.out, ht, hc⟩
      clear hown ht hd
      go_wp2_with fail
      go_ret
      exact ⟨A', k, c', rfl, HF.out⟩

set_option maxHeartbeats 4000000 in
set_option maxRecDepth 100000 in
theorem rTotal_c (A : Option Addr) (n c : Nat) (L : List Od) (lot : Int) (hlot : InR lot) (w : World) (H : Ods w A n L) (hn : n ≤ 1000) :
    Calls Try.prog 12 #[.slice A n c, .int .i64 lot] w fun e w' => e = .returned (.int .i64 (totN (qs L) lot)) ∧ w = w' := by
  have HO : Aside (Ods w A n L) := H
  have HLn := Lib.hid H.1
  clear H
  obtain ⟨T, hT⟩ : ∃ T, T = totN (qs L) lot := ⟨_, rfl⟩
  rw [← hT]
  have HT := Lib.hid hT
  clear hT
  by_cases h1 : lot < 1
  · have h : Hid (T = 0) := Lib.hid (HT.out.trans (if_pos (.inl h1)))
    clear HT
    go_enter Try.func12, Try.ntmps12
    go_wp2_with fail
    go_ret
    rw [h.out]; exact ⟨rfl, rfl⟩
  by_cases h2 : 1099511627776 < lot
  · have h : Hid (T = 0) := Lib.hid (HT.out.trans (if_pos (.inr (.inl h2))))
    clear HT
    go_enter Try.func12, Try.ntmps12
    go_wp2_with fail
    go_ret
    rw [h.out]; exact ⟨rfl, rfl⟩
  by_cases h3 : 64 < n
  · have h : Hid (T = 0) := Lib.hid (HT.out.trans (if_pos (.inr (.inr (.inl (by rw [qs_len, HLn.out]; exact h3))))))
    clear HT
    have h3I : (64 : Int) < (n : Int) := by omega
    go_enter Try.func12, Try.ntmps12
    go_wp2_with fail
    go_ret
    rw [h.out]; exact ⟨rfl, rfl⟩
  have g1 : 1 ≤ lot := by omega
  have g2 : lot ≤ 1099511627776 := by omega
  have g3 : ¬ (64 : Int) < (n : Int) := by omega
  have g4 : n ≤ 64 := by omega
  clear h1 h2 h3
  go_enter Try.func12, Try.ntmps12
  go_wp2_with fail
  go_loopg [5, 6] n (fun kx s5 s21 wr => ∃ k : Nat, s21 = .int .i64 k ∧ k ≤ n ∧ n - k ≤ kx ∧ s5 = .int .i64 (sumT lot ((qs L).take k)) ∧ Hid (OkQ ((qs L).take k)) ∧ wr = w)
  case atStart => exact ⟨0, rfl, by omega, by omega, rfl, Lib.hid (fun q h => by simp at h), rfl⟩
  case round =>
    obtain ⟨k, rfl, hk, hkx, rfl, hok, rfl⟩ := hrel
    by_cases hlt : k < n
    · have hltI : (k : Int) < (n : Int) := by omega
      have h1 := HO.out.2.2.2
      rcases h1 with h1 | ⟨b, off, rfl, _, hc⟩
      · omega
      have hx := hc k hlt
      clear hc
      have hxk := HO.out.2.2.1
      have HQ := Lib.hid (qs_get L k (by rw [HLn.out]; exact hlt))
      obtain ⟨x, ex⟩ : ∃ x, L[k]! = x := ⟨_, rfl⟩
      rw [ex] at hx HQ
      clear ex hxk
      obtain ⟨x0, x1, x2, x3, x4, x5⟩ := hx
      by_cases q1 : x.qty < 0
      · have h : Hid (T = 0) := Lib.hid (HT.out.trans (totN_bad (k := k) (by rw [qs_len, HLn.out]; exact hlt) (by rw [HQ.out]; omega)))
        clear hok HT HQ
        go_wp2_with fail
        go_ret
        rw [h.out]; exact ⟨rfl, rfl⟩
      by_cases q2 : 1099511627776 < x.qty
      · have h : Hid (T = 0) := Lib.hid (HT.out.trans (totN_bad (k := k) (by rw [qs_len, HLn.out]; exact hlt) (by rw [HQ.out]; omega)))
        clear hok HT HQ
        go_wp2_with fail
        go_ret
        rw [h.out]; exact ⟨rfl, rfl⟩
      have q3 : 0 ≤ x.qty := by omega
      have q4 : x.qty ≤ 1099511627776 := by omega
      have hst := sumT_step (lot := lot) (Q := qs L) (k := k) g1 (by rw [qs_len, HLn.out]; exact hlt) (by rw [qs_len, HLn.out]; exact g4) hok.out (by rw [HQ.out]; exact ⟨q3, q4⟩)
      rw [HQ.out] at hst
      obtain ⟨⟨s1, s2⟩, ⟨t1, t2⟩, hs⟩ := hst
      have hok2 : Hid (OkQ ((qs L).take (k + 1))) := Lib.hid (okQ_snoc hok.out (by rw [qs_len, HLn.out]; exact hlt) (by rw [HQ.out]; exact ⟨q3, q4⟩))
      have HTr : Hid (∀ w, Calls Try.prog 16 #[.int .i64 lot, .int .i64 x.qty] w fun e w' => e = .returned (.int .i64 (trimN lot x.qty)) ∧ w = w') := Lib.hid (fun w => rTrim_c lot x.qty ⟨by omega, by omega⟩ hlot w)
      generalize sumT lot ((qs L).take k) = S at *
      generalize trimN lot x.qty = t at *
      have HS := Lib.hid hs
      clear hok HQ hs hlot
      go_wp2_with ((with_reducible refine (HTr.out _).mono ?_); rintro e w' ⟨rfl, rfl⟩)
      go_roundg (n - (k + 1))
      case measure => omega
      case rel => exact ⟨k + 1, by go_num, by omega, by omega, by rw [HS.out], hok2, rfl⟩
    · have hltI : ¬ (k : Int) < (n : Int) := by omega
      obtain rfl : k = n := by omega
      have h : Hid (T = sumT lot ((qs L).take k)) := by
        have e : (qs L).take k = qs L := List.take_of_length_le (by rw [qs_len, HLn.out]; exact Nat.le_refl _)
        have ho := hok.out
        rw [e] at ho ⊢
        exact Lib.hid (HT.out.trans (totN_good g1 g2 (by rw [qs_len, HLn.out]; exact g4) ho))
      generalize sumT lot ((qs L).take k) = S at *
      clear hok HT
      go_wp2_with fail
      go_ret
      rw [h.out]; exact ⟨rfl, rfl⟩
end Go.Proofs.Ythpgbghcmfjjoaa
