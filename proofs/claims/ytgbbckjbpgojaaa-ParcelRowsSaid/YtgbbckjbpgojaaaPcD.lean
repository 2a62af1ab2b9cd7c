/- parcel: slices, one behind the other, by the library's Grow and Concat. -/
import Derived.Test.YtgbbckjbpgojaaaPcC
import Derived.Test.YtgbbckjbpgojaaaShelfG
import Derived.Laws.AppendOwnNone
namespace Go.Proofs.Ytgbbckjbpgojaaa
open Go.RowKit

/-- Room was made. -/
def Grown0 (w : World) (e : Ending) (w' : World) : Prop := ∃ v, e = .returned v ∧ w'.ownsRow w.heap.size 5 1 v 0 [] ∧ Hid (Below w.heap.size w w')
theorem grow_c (n : Nat) (w : World) (h0 : 0 < n) (hn : n ≤ 1000000) :
    Calls Try.prog 30 #[.slice none 0 0, .int .i64 (n : Int)] w (Grown0 w) := by
  obtain ⟨i0, hi0, hz0, hz1, hz2⟩ := info_parts info_u8
  refine (Any8.slices_Grow_grow Try.growL i0 _ hi0 hz0 (by omega) none 0 0 n [] w (Nat.le_refl _) (by omega) (by rw [hz2]; omega) (by omega) (by simp) (fun _ => rfl) (fun a h => by cases h)).mono fun e w' ⟨he, hw⟩ => ?_
  have ht : Try.growL_ren.t 25 = 5 := rfl
  rw [ht, Nat.zero_add] at he hw
  have hk := heap_alloc_new w.drew (.cells (#[] ++ Builtin.zeroCells (Value.int .u8 0).cells (n - 0) ++ Builtin.zeroCells (Value.int .u8 0).cells (grownCap w n 0 5 - n)) 5)
  have hge := grownCap_ge w n 0 5
  have hle := grownCap_le_maxLen w n 0 5 (by unfold maxLen; omega)
  refine ⟨_, he, ⟨rfl, .inr ⟨w.heap.size, _, _, rfl, Nat.le_refl _, by rw [hw]; exact hk, Nat.zero_le _, hle, ?_, rfl⟩⟩, ?_⟩
  · simp only [Array.size_append, size_zeroCells, Value.cells]
    simp
    omega
  · rw [hw]; exact ((Below.refl _ w).drew).alloc (Nat.le_refl _) _

/-- A part: where it lies, and what it is. -/
structure Prt where
  A : Option Addr
  n : Nat
  c : Nat
  l : List UInt8
instance : Inhabited Prt := ⟨⟨none, 0, 0, []⟩⟩
def lenP (ps : List Prt) : Nat := (ps.map (·.n)).sum
def bytP (ps : List Prt) : List UInt8 := ps.flatMap (·.l)
theorem lenP_take {ps : List Prt} {k : Nat} (h : k < ps.length) : lenP (ps.take (k + 1)) = lenP (ps.take k) + (ps[k]!).n := by
  unfold lenP
  rw [List.take_succ_eq_append_getElem h, List.map_append, List.sum_append, List.getElem!_eq_getElem?_getD, List.getElem?_eq_getElem h]
  simp
theorem bytP_take {ps : List Prt} {k : Nat} (h : k < ps.length) : bytP (ps.take (k + 1)) = bytP (ps.take k) ++ (ps[k]!).l := by
  unfold bytP
  rw [List.take_succ_eq_append_getElem h, List.flatMap_append, List.getElem!_eq_getElem?_getD, List.getElem?_eq_getElem h]
  simp
theorem lenP_le (ps : List Prt) (k : Nat) : lenP (ps.take k) ≤ lenP ps := by
  have h : lenP ps = lenP (ps.take k) + lenP (ps.drop k) := by
    unfold lenP
    rw [← List.sum_append, ← List.map_append, List.take_append_drop]
  omega
/-- The parts in a slice of slices. -/
def Parts (w : World) (q : Nat) (ps : List Prt) : Prop := q < w.heap.size ∧ ∀ i, i < ps.length → w.cell? ⟨q, 0 + i, none⟩ = some (.slice (ps[i]!).A (ps[i]!).n (ps[i]!).c) ∧ SlB w (ps[i]!).A (ps[i]!).n (ps[i]!).l ∧ ((ps[i]!).A = none → (ps[i]!).c = 0)
theorem Parts.below {w w' : World} {q : Nat} {ps : List Prt} (h : Parts w q ps) (hb : Below w.heap.size w w') : Parts w' q ps :=
  ⟨Nat.lt_of_lt_of_le h.1 hb.size, fun i hi => ⟨by rw [hb.cell (p := ⟨q, 0 + i, none⟩) h.1]; exact (h.2 i hi).1, (h.2 i hi).2.1.fr0 (Fr.of_below (S := fun _ => False) hb) (fun _ _ _ h => h), (h.2 i hi).2.2⟩⟩

set_option maxHeartbeats 8000000 in
set_option maxRecDepth 100000 in
theorem concat_c (q cap : Nat) (ps : List Prt) (w : World) (h : Parts w q ps) (hm : ps.length ≤ 10) (h0 : 0 < lenP ps) (hs : lenP ps ≤ 1000000) :
    Calls Try.prog 20 #[.slice (some ⟨q, 0, none⟩) ps.length cap] w fun e w' => ∃ v, e = .returned v ∧ w'.ownsRow w.heap.size 5 1 v (lenP ps) ((bytP ps).map byt) ∧ Hid (Below w.heap.size w w') := by
  obtain ⟨i0, hi0, hz0, hz1, hz2⟩ := info_parts info_u8
  have HP := Lib.hid h
  have HS := Lib.hid (fun k => Nat.le_trans (lenP_le ps k) hs)
  have HG := Lib.hid (fun W => grow_c (lenP ps) W h0 hs)
  have hmI : (ps.length : Int) ≤ 10 := by omega
  obtain ⟨m, hmm⟩ : ∃ m, m = ps.length := ⟨_, rfl⟩
  have HM := Lib.hid hmm
  rw [← hmm] at hmI hm ⊢
  clear h h0 hs hmm
  go_enter Try.func20, Try.ntmps20
  go_wp2_with fail
  go_loop [3, 11] (fun s i => ∃ k : Nat, k ≤ m ∧ i = .int .i64 (k : Int) ∧ s = .int .i64 ((lenP (ps.take k) : Nat) : Int)) (fun _ i => m - (intOf i).toNat)
  case atStart => exact ⟨0, by omega, rfl, rfl⟩
  case round =>
    obtain ⟨k, hk, rfl, rfl⟩ := hrel
    have hk0 : (0 : Int) ≤ (k : Int) := by omega
    by_cases hlt : k < m
    · have hltI : (k : Int) < (m : Int) := by omega
      obtain ⟨p0, _, _⟩ := HP.out.2 k (by rw [← HM.out]; exact hlt)
      rw [Nat.zero_add] at p0
      have HN := Lib.hid (lenP_take (ps := ps) (k := k) (by rw [← HM.out]; exact hlt))
      have hb1 := HS.out (k + 1)
      rw [HN.out] at hb1
      obtain ⟨pt, hpt⟩ : ∃ pt, pt = ps[k]! := ⟨_, rfl⟩
      rw [← hpt] at p0 HN hb1
      obtain ⟨pA, pn, pc, pl⟩ := pt
      simp only at p0 HN hb1
      obtain ⟨s, hs⟩ : ∃ s, s = lenP (ps.take k) := ⟨_, rfl⟩
      rw [← hs] at HN hb1 ⊢
      have hs1 : (s : Int) + (pn : Int) ≤ 1000000 := by omega
      have hneg : ¬ (s : Int) + (pn : Int) < 0 := by omega
      clear hpt hs hb1
      go_wp2_with fail
      exact ⟨⟨k + 1, by omega, by go_num, by rw [HN.out]; go_num⟩, by simp [intOf]; omega⟩
    · have hkm : k = m := by omega
      subst hkm
      have htk : ps.take k = ps := List.take_of_length_le (by rw [← HM.out]; exact Nat.le_refl _)
      rw [htk]
      have HTk := Lib.hid htk
      clear htk
      go_wp2_with fail
      ((with_reducible refine (HG.out _).mono ?_); rintro e w1 ⟨v, rfl, hown, hd⟩)
      go_wp2_with fail
      go_loopw [6, 27] (fun v i wr => ∃ j : Nat, j ≤ k ∧ i = .int .i64 (j : Int) ∧ wr.ownsRow w.heap.size 5 1 v (lenP (ps.take j)) ((bytP (ps.take j)).map byt) ∧ Hid (Below w.heap.size w wr)) (fun _ i _ => k - (intOf i).toNat)
      case atStart => exact ⟨0, by omega, rfl, hown, hd⟩
      case round =>
        clear hown hd
        obtain ⟨j, hj, rfl, hown, hd⟩ := hrel
        have hj0 : (0 : Int) ≤ (j : Int) := by omega
        by_cases hlt2 : j < k
        · have hltI : (j : Int) < (k : Int) := by omega
          obtain ⟨p0, p1, p2⟩ := (HP.out.below hd.out).2 j (by rw [← HM.out]; exact hlt2)
          rw [Nat.zero_add] at p0
          have HN := Lib.hid (lenP_take (ps := ps) (k := j) (by rw [← HM.out]; exact hlt2))
          have HY := Lib.hid (bytP_take (ps := ps) (k := j) (by rw [← HM.out]; exact hlt2))
          have hb1 := HS.out (j + 1)
          rw [HN.out] at hb1
          obtain ⟨pt, hpt⟩ : ∃ pt, pt = ps[j]! := ⟨_, rfl⟩
          rw [← hpt] at p0 p1 p2 HN HY hb1
          obtain ⟨pA, pn, pc, pl⟩ := pt
          simp only at p0 p1 p2 HN HY hb1
          obtain ⟨s, hs⟩ : ∃ s, s = lenP (ps.take j) := ⟨_, rfl⟩
          obtain ⟨bs, hbs⟩ : ∃ bs, bs = bytP (ps.take j) := ⟨_, rfl⟩
          rw [← hs] at HN hb1 hown
          rw [← hbs] at HY hown
          have hsz := hd.out.size
          have hpl := p1.1
          clear hpt hs hbs
          cases pA with
          | none =>
            have hc0 := p2 rfl
            have hn0 : pn = 0 := by
              rcases p1.2 with h | ⟨_, _, h, _⟩
              · exact h
              · cases h
            subst hc0; subst hn0
            have hpl0 : pl = [] := List.eq_nil_of_length_eq_zero hpl
            subst hpl0
            rw [List.append_nil] at HY
            rw [Nat.add_zero] at HN
            clear p1 p2 hpl hb1
            go_wp2_with (at_builtin; refine wpList_append_own_none rfl _ _ 22 rfl w.heap.size 5 i0 1 Try.underlying22 hi0 _ _ _ rfl hown rfl ?_)
            go_wp2_with fail
            exact ⟨⟨j + 1, by omega, by go_num, by rw [HN.out, HY.out]; exact hown, hd⟩, by simp [intOf]; omega⟩
          | some ad =>
            have hnews : ∀ (i : Nat) (u : Value), (pl.map byt)[i]? = some u → wr.cell? (ad.add i) = some u := by
              rcases p1.2 with h | ⟨b, off, h, _, hc⟩
              · subst h
                have hpl0 : pl = [] := List.eq_nil_of_length_eq_zero hpl
                subst hpl0
                intro i u hu; simp at hu
              · injection h with h
                subst h
                exact SlB.news hpl hc
            have HNw := Lib.hid hnews
            clear p1 p2 hnews
            go_wp2_with (at_builtin; refine wpList_append_own _ rfl _ _ 22 rfl w.heap.size 5 i0 (.int .u8 0) 1 1 Try.underlying22 hi0 hz0 hz1 hz2 rfl (by decide) _ _ _ rfl hown ad pn pc (pl.map byt) rfl ?c0 ?c1 ?c2 ?c3 ?c4 ?c5 ?_)
            case c0 => rw [List.length_map, hpl, Nat.mul_one]
            case c1 => exact HNw.out
            case c2 => exact byt_one pl
            case c3 => unfold maxLen; omega
            case c4 => omega
            case c5 => exact hsz
            intro v1 w2 hown1 hg1 _
            have hB1 : Hid (Below w.heap.size w w2) := Below.grown hd.out hg1 hsz (fun i hi => (hown.lt i hi).1)
            rw [← List.map_append, ← HY.out, ← HN.out] at hown1
            clear hg1 hown hd HNw
            go_wp2_with fail
            exact ⟨⟨j + 1, by omega, by go_num, hown1, hB1.out⟩, by simp [intOf]; omega⟩
        · have hjk : j = k := by omega
          subst hjk
          rw [HTk.out] at hown
          go_wp2_with fail
          go_ret
          exact ⟨_, rfl, hown, hd⟩
end Go.Proofs.Ytgbbckjbpgojaaa
