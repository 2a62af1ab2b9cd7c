/- The reference's side: the orders of a side, in their order. -/
import Derived.Test.YtgbmgdffgmablaaOrS
import Derived.Test.YtgbmgdffgmablaaOrK
import Derived.Deep.Cut
import Derived.Deep.CutRange
namespace Go.Proofs.Ytgbmgdffgmablaa
open Go.RowKit Go.Sort Go.Lib Go.Shelf

/-- The side, or 0 of none. -/
def clsO (x : Od) : Int := if x.side < 1 ∨ 2 < x.side then 0 else x.side
def ofO (s : Int) (x : Od) : Bool := decide (clsO x = s)
theorem fil_yes {L : List Od} {k : Nat} {s : Int} (h : k < L.length) (hp : clsO L[k]! = s) : (L.take (k + 1)).filter (ofO s) = (L.take k).filter (ofO s) ++ [L[k]!] := by
  rw [List.take_succ_eq_append_getElem h, List.filter_append, ← getElem!_pos L k h]
  congr 1
  rw [List.filter_cons_of_pos (by unfold ofO; exact decide_eq_true hp)]
  rfl
theorem fil_no {L : List Od} {k : Nat} {s : Int} (h : k < L.length) (hp : ¬ clsO L[k]! = s) : (L.take (k + 1)).filter (ofO s) = (L.take k).filter (ofO s) := by
  rw [List.take_succ_eq_append_getElem h, List.filter_append, ← getElem!_pos L k h]
  rw [List.filter_cons_of_neg (by unfold ofO; simpa using hp)]
  simp
theorem fil_len (L : List Od) (s : Int) (k : Nat) : ((L.take k).filter (ofO s)).length ≤ k :=
  Nat.le_trans (List.length_filter_le _ _) (by rw [List.length_take]; omega)

set_option maxHeartbeats 4000000 in
set_option maxRecDepth 1000000 in
theorem rSide_c (A : Option Addr) (n c : Nat) (s : Int) (L : List Od) (w : World) (H : Ods w A n L) (hn : n ≤ 1000) :
    Calls Try.prog 58 #[.slice A n c, .int .i64 s] w (RowIs w (L.filter (ofO s))) := by
  obtain ⟨i0, hi0, hz0, hz1, hz2⟩ := info_parts info_ro
  have HO : Aside (Ods w A n L) := H
  have HLn := Lib.hid H.1
  clear H
  go_enter Try.func58, Try.ntmps58
  go_wp2_with fail
  go_loopg [5, 6] n (fun kx v s6 wr => ∃ k m : Nat, s6 = .int .i64 k ∧ k ≤ n ∧ n - k ≤ kx ∧ m ≤ k ∧ wr.ownsRow w.heap.size 50 6 v m (ol ((L.take k).filter (ofO s))) ∧ Hid (Below w.heap.size w wr))
  case atStart => exact ⟨0, 0, rfl, by omega, by omega, by omega, World.ownsRow_nil _ _ _ _, Below.refl _ _⟩
  case round =>
    obtain ⟨k, m, rfl, hk, hkx, hmk, hown, hd⟩ := hrel
    by_cases hlt : k < n
    · have hltI : (k : Int) < (n : Int) := by omega
      have h1 := (HO.out.below hd.out).2.2.2
      rcases h1 with h1 | ⟨b, off, rfl, _, hc⟩
      · omega
      have hx := hc k hlt
      clear hc
      have HY := Lib.hid (fun h => fil_yes (L := L) (k := k) (s := s) (by rw [HLn.out]; exact hlt) h)
      have HN := Lib.hid (fun h => fil_no (L := L) (k := k) (s := s) (by rw [HLn.out]; exact hlt) h)
      obtain ⟨x, ex⟩ : ∃ x, L[k]! = x := ⟨_, rfl⟩
      rw [ex] at hx HN HY
      clear ex
      obtain ⟨x0, x1, x2, x3, x4, x5⟩ := hx
      have hsz := hd.out.size
      by_cases h1 : x.side < 1
      · have c1 : decide (x.side < 1) = true := decide_eq_true h1
        have e : clsO x = 0 := by unfold clsO; rw [if_pos (.inl h1)]
        by_cases hp : clsO x = s
        · have hs := hp
          rw [e] at hs
          have e1 : ((0 : Int) == s) = true := by simp [hs]
          have HF := HY.out hp
          have HF := Lib.hid HF
          clear hp HY HN hs e
          go_wp2_with (at_builtin; refine wpList_append_own _ rfl _ _ 46 rfl w.heap.size 50 i0 (.agg (OC ⟨0, 0, 0, 0, 0, 0⟩)) 6 48 Try.underlying46 hi0 hz0 hz1 hz2 rfl (by decide) _ _ _ rfl (hown.alloc _) ⟨wr.heap.size, 0, none⟩ 1 1 (encO x) rfl rfl ?c1 ?c2 ?c3 ?c4 ?c5 ?_)
          case c1 => first | exact six_news _ x | exact fun j u h => h
          case c2 => exact enc_one x
          case c3 => unfold maxLen; omega
          case c4 => omega
          case c5 => first | omega | (simp; omega)
          intro v1 w1 hown1 hg1 _
          have hB1 : Hid (Below w.heap.size w w1) := Below.grown (hd.out.alloc hsz _) hg1 (by simp; omega) (fun k hk => (hown.lt k hk).1)
          rw [← ol_app, ← HF.out] at hown1
          clear hg1 hown hd
          go_wp2_with fail
          go_roundg (n - (k + 1))
          case measure => omega
          case rel => exact ⟨k + 1, m + 1, by go_num, by omega, by omega, by omega, hown1, hB1⟩
        · have hs := hp
          rw [e] at hs
          have e1 : ((0 : Int) == s) = false := by rw [beq_eq_false_iff_ne]; exact hs
          have HF := HN.out hp
          rw [← HF] at hown
          clear hp HY HN HF hs e
          go_wp2_with fail
          go_roundg (n - (k + 1))
          case measure => omega
          case rel => exact ⟨k + 1, m, by go_num, by omega, by omega, by omega, hown, hd⟩
      · have c1 : decide (x.side < 1) = false := decide_eq_false h1
        by_cases h2 : 2 < x.side
        · have c2 : decide (2 < x.side) = true := decide_eq_true h2
          have e : clsO x = 0 := by unfold clsO; rw [if_pos (.inr h2)]
          by_cases hp : clsO x = s
          · have hs := hp
            rw [e] at hs
            have e1 : ((0 : Int) == s) = true := by simp [hs]
            have HF := HY.out hp
            have HF := Lib.hid HF
            clear hp HY HN hs e
            go_wp2_with (at_builtin; refine wpList_append_own _ rfl _ _ 46 rfl w.heap.size 50 i0 (.agg (OC ⟨0, 0, 0, 0, 0, 0⟩)) 6 48 Try.underlying46 hi0 hz0 hz1 hz2 rfl (by decide) _ _ _ rfl (hown.alloc _) ⟨wr.heap.size, 0, none⟩ 1 1 (encO x) rfl rfl ?c1 ?c2 ?c3 ?c4 ?c5 ?_)
            case c1 => first | exact six_news _ x | exact fun j u h => h
            case c2 => exact enc_one x
            case c3 => unfold maxLen; omega
            case c4 => omega
            case c5 => first | omega | (simp; omega)
            intro v1 w1 hown1 hg1 _
            have hB1 : Hid (Below w.heap.size w w1) := Below.grown (hd.out.alloc hsz _) hg1 (by simp; omega) (fun k hk => (hown.lt k hk).1)
            rw [← ol_app, ← HF.out] at hown1
            clear hg1 hown hd
            go_wp2_with fail
            go_roundg (n - (k + 1))
            case measure => omega
            case rel => exact ⟨k + 1, m + 1, by go_num, by omega, by omega, by omega, hown1, hB1⟩
          · have hs := hp
            rw [e] at hs
            have e1 : ((0 : Int) == s) = false := by rw [beq_eq_false_iff_ne]; exact hs
            have HF := HN.out hp
            rw [← HF] at hown
            clear hp HY HN HF hs e
            go_wp2_with fail
            go_roundg (n - (k + 1))
            case measure => omega
            case rel => exact ⟨k + 1, m, by go_num, by omega, by omega, by omega, hown, hd⟩
        · have c2 : decide (2 < x.side) = false := decide_eq_false h2
          have e : clsO x = x.side := by unfold clsO; rw [if_neg (by omega)]
          by_cases hp : clsO x = s
          · have hs := hp
            rw [e] at hs
            have e1 : (x.side == s) = true := by simp [hs]
            have HF := HY.out hp
            have HF := Lib.hid HF
            clear hp HY HN hs e
            go_wp2_with (at_builtin; refine wpList_append_own _ rfl _ _ 46 rfl w.heap.size 50 i0 (.agg (OC ⟨0, 0, 0, 0, 0, 0⟩)) 6 48 Try.underlying46 hi0 hz0 hz1 hz2 rfl (by decide) _ _ _ rfl (hown.alloc _) ⟨wr.heap.size, 0, none⟩ 1 1 (encO x) rfl rfl ?c1 ?c2 ?c3 ?c4 ?c5 ?_)
            case c1 => first | exact six_news _ x | exact fun j u h => h
            case c2 => exact enc_one x
            case c3 => unfold maxLen; omega
            case c4 => omega
            case c5 => first | omega | (simp; omega)
            intro v1 w1 hown1 hg1 _
            have hB1 : Hid (Below w.heap.size w w1) := Below.grown (hd.out.alloc hsz _) hg1 (by simp; omega) (fun k hk => (hown.lt k hk).1)
            rw [← ol_app, ← HF.out] at hown1
            clear hg1 hown hd
            go_wp2_with fail
            go_roundg (n - (k + 1))
            case measure => omega
            case rel => exact ⟨k + 1, m + 1, by go_num, by omega, by omega, by omega, hown1, hB1⟩
          · have hs := hp
            rw [e] at hs
            have e1 : (x.side == s) = false := by rw [beq_eq_false_iff_ne]; exact hs
            have HF := HN.out hp
            rw [← HF] at hown
            clear hp HY HN HF hs e
            go_wp2_with fail
            go_roundg (n - (k + 1))
            case measure => omega
            case rel => exact ⟨k + 1, m, by go_num, by omega, by omega, by omega, hown, hd⟩
    · have hltI : ¬ (k : Int) < (n : Int) := by omega
      obtain rfl : k = n := by omega
      rw [List.take_of_length_le (by rw [HLn.out]; exact Nat.le_refl _)] at hown
      obtain ⟨A', c', rfl, hc, ht⟩ := own_ods hown (by omega) (fun x hx => (HO.out.below hd.out).2.2.1 x ((List.mem_filter.1 hx).1))
      have HF : Hid (Below w.heap.size w wr ∧ Ods wr A' m (L.filter (ofO s)) ∧ CapOk A' m c') := ⟨hd.out, ht, hc⟩
      clear hown ht hd
      go_wp2_with fail
      go_ret
      exact ⟨A', m, c', rfl, HF.out⟩
end Go.Proofs.Ytgbmgdffgmablaa
