/- What the laws lean on, in one row of texts (by shake.py): part 2 of 5. -/
import Derived.Test.YtgbmgdffgmablaaGreatZs1
import Derived.Maps.AppendAt
import Derived.Test.YtgbmgdffgmablaaGreatRows
import Derived.WalkKit
import Derived.Lib.Hide
import Derived.WalkSpells
import Derived.WalkLawsBesides
import Derived.Handy
import Derived.BigQuiet
import Derived.Deep.QuietTactic
import Derived.Deep.WholeRow
import Derived.Deep.RegionWith
import Derived.Deep.RegionHeld3
import Derived.Deep.Cut
import Derived.Deep.CutRange
import Derived.Shelf.SlSortCmp.QuietGrown
import Derived.Laws.OwnMore
import Derived.Laws.AppendOwnNone
import Derived.Shelf.Spec.SlicesInsert
import Derived.Lib.AppendZerosOnto
import Derived.Lib.Overlaps
import Derived.Laws.CopyRow
import Derived.Laws.CopyOwn
import Derived.Maps.OwnIn

namespace Go.Proofs.YtgbmgdffgmablaaGreat
open Go.RowKit Go.Sort Go.Lib Go.Shelf

def bookO (L : List Od) : Bool := decide (L.length ≤ 64) && (L.all goodO && (decide ((L.map Od.id).Nodup) && eqL L (sortO L)))
theorem keeps_iff (d : Array Int) (j : Nat) : keeps d j = true ↔ j = 0 ∨ d[j - 1]! ≠ d[j]! := by
  unfold keeps; by_cases h : j = 0 <;> simp [h] <;> exact ⟨fun h e => h e.symm, fun h e => h e.symm⟩
/-- Of a sorted row none is left out just if no two are the same. -/
theorem compact_len {d d' : Array Int} {n : Nat} (hn : d.size = n) (P : PermIn 0 n d d') (S : SortedIn ltInt 0 n d') : (compactUpTo d' n).length = n ↔ d.toList.Nodup := by
  have hn' : d'.size = n := P.1.trans hn
  have e1 : d'.extract 0 n = d' := by rw [← hn']; exact Array.extract_size
  have e2 : d.extract 0 n = d := by rw [← hn]; exact Array.extract_size
  have hp := P.2.2
  rw [e1, e2] at hp
  rw [← hp.nodup_iff]
  unfold compactUpTo
  rw [List.length_map]
  have hl : ((List.range n).filter (keeps d')).length = n ↔ ∀ j, j < n → keeps d' j = true := by
    constructor
    · intro h j hj
      have := List.length_filter_eq_length_iff.1 (h.trans List.length_range.symm)
      exact this j (List.mem_range.2 hj)
    · intro h
      rw [List.filter_eq_self.2 (fun j hj => h j (List.mem_range.1 hj)), List.length_range]
  rw [hl]
  constructor
  · intro h
    have hs : ∀ i j, i < j → j < n → d'[i]! < d'[j]! := by
      intro i j hij hj
      induction j with
      | zero => omega
      | succ j ih =>
        have h1 := S j (j + 1) (Nat.zero_le _) (by omega) hj
        have h2 := (keeps_iff d' (j + 1)).1 (h (j + 1) hj)
        unfold ltInt at h1
        simp only [decide_eq_false_iff_not, Int.not_lt] at h1
        have h3 : d'[j]! < d'[j + 1]! := by
          rcases h2 with h2 | h2
          · omega
          · simp only [Nat.add_sub_cancel] at h2; omega
        by_cases e : i = j
        · subst e; exact h3
        · exact Int.lt_trans (ih (by omega) (by omega)) h3
    unfold List.Nodup
    rw [List.pairwise_iff_getElem]
    intro i j hi hj hij
    have := hs i j hij (by simpa [hn'] using hj)
    rw [getElem!_pos d' i (by simpa using hi), getElem!_pos d' j (by simpa using hj)] at this
    simp only [Array.getElem_toList]
    omega
  · intro h j hj
    rw [keeps_iff]
    by_cases e : j = 0
    · exact .inl e
    · right
      unfold List.Nodup at h
      rw [List.pairwise_iff_getElem] at h
      have := h (j - 1) j (by simp [hn']; omega) (by simp [hn']; omega) (by omega)
      rw [getElem!_pos d' (j - 1) (by omega), getElem!_pos d' j (by omega)]
      simpa using this
theorem su_below {w0 w : World} {blk : Nat} {d : Array Int} {B : Nat} (S : SW eU w0 blk 0 d w) (hB : B ≤ blk) (hs : B ≤ w0.heap.size) : Below B w0 w := by
  obtain ⟨n, os, rfl⟩ := S
  refine ⟨rfl, rfl, rfl, ?_, fun j hj => ?_⟩
  · unfold sortWorld; rw [size_grow, size_putRow]; exact Nat.le_add_right _ _
  · unfold sortWorld
    rw [heap_grow_old _ _ (by rw [size_putRow]; show j < w0.heap.size; omega)]
    unfold putRow mapBlock
    show (w0.heap.modify blk _)[j]? = _
    rw [Array.getElem?_modify, if_neg (by omega)]
/-- A row of numbers of the call's own, as the sort sees it. -/
theorem own_u {w : World} {base n g cap : Nat} {zs : List Int} (h : w.ownsRow base 35 1 (.slice (some ⟨g, 0, none⟩) n cap) n (zs.map eU)) : zs.length = n ∧ n ≤ cap ∧ g < w.heap.size ∧ Holds eU w g 0 zs.toArray := by
  obtain ⟨h1, h2⟩ := h
  rw [List.length_map, Nat.mul_one] at h1
  rcases h2 with ⟨h0, _⟩ | ⟨k, cap', cur, hv, hb, hk, hc, hm, hs, ht⟩
  · cases h0
  · injection hv with e1 e2 e3
    injection e1 with e1
    injection e1 with e1
    subst e1 e3
    refine ⟨h1, hc, blk_lt hk, fun j hj => ⟨?_, frozen_of_row _ _ _ _ _ hk⟩⟩
    have hj' : j < zs.length := by simpa using hj
    have hx : (zs.map eU)[j]? = some (eU zs.toArray[j]!) := by
      rw [List.getElem?_map, List.getElem?_eq_getElem hj', getElem!_pos zs.toArray j hj]
      rfl
    rw [Nat.zero_add, cell_of_row _ _ _ _ _ _ hk]
    rw [← ht, List.getElem?_take, if_pos (by omega), Array.getElem?_toList] at hx
    exact hx
theorem ids_one (z : Int) : ∀ u ∈ [Value.int .u64 z], u.oneCell' = true := by
  intro u hu; simp at hu; subst hu; rfl
/-- The cells of the first i orders' ids. -/
def idc (L : List Od) (i : Nat) : List Value := ((L.take i).map Od.id).map eU
theorem ids_snoc {L : List Od} {i : Nat} (h : i < L.length) : idc L (i + 1) = idc L i ++ [.int .u64 (L[i]!).id] := by
  unfold idc
  rw [List.take_succ_eq_append_getElem h, List.map_append, List.map_append, getElem!_pos L i h]; rfl
theorem info_u64 : (Tryz.prog.info? 35).map (fun i => (i.zero, i.size, i.bytes)) = some (some (.int .u64 0), 1, 8) := by kernel_rfl
def BookIs (w : World) (b : Bool) (e : Ending) (w' : World) : Prop := e = .returned (.bool b) ∧ Below w.heap.size w w'
theorem book_long {L : List Od} (h : ¬ L.length ≤ 64) : bookO L = false := by unfold bookO; rw [decide_eq_false h, Bool.false_and]
theorem book_bad {L : List Od} {i : Nat} (hi : i < L.length) (h : goodO L[i]! = false) : bookO L = false := by
  unfold bookO
  have : L.all goodO = false := by
    rw [List.all_eq_false]
    exact ⟨L[i]!, by rw [getElem!_pos L i hi]; exact List.getElem_mem _, by rw [h]; exact Bool.false_ne_true⟩
  rw [this, Bool.false_and, Bool.and_false]
theorem book_twice {L : List Od} (h : ¬ (L.map Od.id).Nodup) : bookO L = false := by
  unfold bookO
  rw [decide_eq_false h, Bool.false_and, Bool.and_false, Bool.and_false]
theorem book_else {L : List Od} (h1 : L.length ≤ 64) (h2 : ∀ i, i < L.length → goodO L[i]! = true) (h3 : (L.map Od.id).Nodup) : bookO L = eqL L (sortO L) := by
  unfold bookO
  have : L.all goodO = true := by
    rw [List.all_eq_true]
    intro x hx
    obtain ⟨i, hi, rfl⟩ := List.getElem_of_mem hx
    have := h2 i hi
    rwa [getElem!_pos L i hi] at this
  rw [decide_eq_true h1, this, decide_eq_true h3]
  rfl
end Go.Proofs.YtgbmgdffgmablaaGreat

namespace Go.Proofs.YtgbmgdffgmablaaGreat
open Go.RowKit Go.Sort Go.Lib Go.Shelf

section
variable {ops : Array Oper} {rest : List Oper} {o : Oper} {a : Act} {w : World} {Q : Exit → Act → World → Prop}
end
set_option maxHeartbeats 4000000 in
set_option maxRecDepth 100000 in
theorem bookLong_c (A : Option Addr) (n c : Nat) (L : List Od) (w : World) (hl : L.length = n) (h : ¬ n ≤ 64) : Calls Tryz.prog 43 #[.slice A n c] w (BookIs w (bookO L)) := by
  have e : bookO L = false := book_long (by omega)
  rw [e]
  have hz : (64 : Int) < (n : Int) := by omega
  clear h
  go_enter Tryz.func43, Tryz.ntmps43
  go_wp2_with fail
  go_ret
  exact ⟨rfl, Below.refl _ _⟩
set_option maxHeartbeats 4000000 in
set_option maxRecDepth 100000 in
theorem book_c (A : Option Addr) (n c : Nat) (L : List Od) (w : World) (H : Ods w A n L) (h64 : n ≤ 64) (hS : SortsU n) : Calls Tryz.prog 43 #[.slice A n c] w (BookIs w (bookO L)) := by
  have mixed : Tryz.prog.follows .mixedOrders = true := by kernel_rfl
  have hl := H.1
  cases hi : Tryz.prog.info? 35 with
  | none => have := info_u64; rw [hi] at this; cases this
  | some i0 =>
    have := info_u64
    rw [hi] at this
    simp only [Option.map_some, Option.some.injEq, Prod.mk.injEq] at this
    obtain ⟨h1, h2, h3⟩ := this
    have HIn : Hid (Tryz.prog.info? 35 = some i0 ∧ i0.zero = some (.int .u64 0) ∧ i0.size = 1 ∧ i0.bytes = 8) := ⟨hi, h1, h2, h3⟩
    have HO : Aside (Ods w A n L) := H
    have HLn := Lib.hid hl
    have HS : Aside (SortsU n) := hS
    have HG : Aside (∀ (x : Od) (w : World), Calls Tryz.prog 65 #[.agg (OC x)] w fun e w' => e = .returned (.bool (goodO x)) ∧ Gw w w') := good_c
    have n64 : ¬ (64 : Int) < (n : Int) := by omega
    clear hi h1 h2 h3 H hl hS
    go_enter Tryz.func43, Tryz.ntmps43
    go_wp2_with (refine wpList_make_own _ rfl _ _ 124 rfl w.heap.size 35 i0 (.int .u64 0) 1 Tryz.underlying124 HIn.out.1 HIn.out.2.1 HIn.out.2.2.1 .i64 .i64 (n : Int) n rfl rfl rfl (by rw [HIn.out.2.2.2]; omega) (by unfold maxLen; omega) (Nat.le_refl _) ?_)
    intro w1 hown1 hg1
    have B1 : Hid (Below w.heap.size w w1) := Lib.hid (Below.grown (Below.refl _ _) hg1 (Nat.le_refl _) (by intro k hk; cases hk))
    clear hg1
    go_wp2_with fail
    go_loopg [3, 14] n (fun kx s3 s14 wr => ∃ i : Nat, s3 = .slice (some ⟨w.heap.size, 0, none⟩) i n ∧ s14 = .int .i64 i ∧ i ≤ n ∧ n - i ≤ kx ∧ wr.ownsRow w.heap.size 35 1 (.slice (some ⟨w.heap.size, 0, none⟩) i n) i (idc L i) ∧ Hid (Below w.heap.size w wr) ∧ Hid (∀ j, j < i → goodO L[j]! = true))
    case atStart => exact ⟨0, rfl, rfl, by omega, by omega, hown1, B1, Lib.hid (fun j hj => by omega)⟩
    case round =>
      clear hown1 B1
      obtain ⟨i, rfl, rfl, hin, hkx, hown, B1, HJ⟩ := hrel
      by_cases hlt : i < n
      · have hltz : (i : Int) < (n : Int) := by omega
        have h1 := (HO.out.below B1.out).2.2.2
        rcases h1 with h1 | ⟨b, off, rfl, _, hc⟩
        · omega
        have hx := hc i hlt
        clear hc
        obtain ⟨x, ex⟩ : ∃ x, L[i]! = x := ⟨_, rfl⟩
        rw [ex] at hx
        have EX := Lib.hid ex
        clear ex
        obtain ⟨x0, x1, x2, x3, x4, x5⟩ := hx
        cases hg : goodO x with
        | false =>
          have HB : Hid (bookO L = false) := Lib.hid (book_bad (i := i) (by rw [HLn.out]; exact hlt) (by rw [EX.out]; exact hg))
          have HGx := Lib.hid (HG.out x)
          rw [hg] at HGx
          clear hg
          go_wp2_with ((with_reducible refine (HGx.out _).mono ?_); rintro e w2 ⟨rfl, k2⟩)
          go_ret
          rw [HB.out]
          exact ⟨rfl, (B1.out.alloc B1.out.size _).trans (k2.b.mono (by have := B1.out.size; simp; omega))⟩
        | true =>
          have HJ2 : Hid (∀ j, j < i + 1 → goodO L[j]! = true) := Lib.hid (fun j hj => by
            by_cases e : j < i
            · exact HJ.out j e
            · obtain rfl : j = i := by omega
              rw [EX.out]; exact hg)
          have HGx := Lib.hid (HG.out x)
          rw [hg] at HGx
          have HN : Hid (idc L (i + 1) = idc L i ++ [.int .u64 x.id]) := by
            have := ids_snoc (L := L) (i := i) (by rw [HLn.out]; exact hlt)
            rw [EX.out] at this
            exact this
          clear hg HJ
          go_wp2_with fail
          refine (HGx.out _).mono ?_
          rintro e w2 ⟨rfl, k2⟩
          have BX : Hid (Below w.heap.size w w2) := Lib.hid ((B1.out.alloc B1.out.size _).trans (k2.b.mono (by have := B1.out.size; simp; omega)))
          have ci : w2.cell? ⟨wr.heap.size, 0, none⟩ = some (.int .u64 x.id) := by
            rw [World.cell?_of_block (w := wr.alloc (Obj.cells (OC x) 38)) (k2.b.block _ (by simp)), cell_of_row _ _ _ _ _ _ (heap_alloc_new wr _)]
            rfl
          have hown2 := own_fr (S := fun _ => False) (hown.alloc (Obj.cells (OC x) 38)) (Fr.of_below k2.b) (fun _ _ h => h)
          have hs2 := BX.out.size
          clear k2 hown x0 x1 x2 x3 x4 x5 B1
          go_wp2_with (at_builtin; refine wpList_append_fits _ rfl _ _ 124 rfl w.heap.size 35 i0 1 Tryz.underlying124 HIn.out.1 HIn.out.2.2.1 w.heap.size i n (idc L i) rfl (hown2.alloc _) ⟨w2.heap.size, 0, none⟩ 1 1 [.int .u64 x.id] rfl rfl ?c1 ?c2 ?c3 ?_)
          case c1 =>
            intro j u hu
            rw [addr_add, cell_of_row _ _ _ _ _ _ (heap_alloc_new w2 _)]
            match j, hu with
            | 0, hu => simpa using hu
          case c2 => exact ids_one _
          case c3 => omega
          intro w3 hown3 hg3
          have B3 : Hid (Below w.heap.size w w3) := Lib.hid (Below.grown (BX.out.alloc hs2 _) hg3 (by simp; omega) (by intro k hk; injection hk with hk; omega))
          rw [← HN.out] at hown3
          clear hg3 hown2 BX hs2 ci
          go_wp2_with fail
          go_roundg (n - (i + 1))
          case measure => omega
          case rel => exact ⟨i + 1, rfl, by go_num, by omega, by omega, hown3, B3, HJ2⟩
      · have hltz : ¬ (i : Int) < (n : Int) := by omega
        obtain rfl : i = n := by omega
        have e0 : idc L i = (L.map Od.id).map eU := by unfold idc; rw [List.take_of_length_le (by rw [HLn.out]; exact Nat.le_refl _)]
        rw [e0] at hown
        obtain ⟨_, _, hk, hH⟩ := own_u hown
        have hz : (L.map Od.id).toArray.size = i := by simp [HLn.out]
        have HSO := Lib.hid (HS.out w.heap.size 0 i (L.map Od.id).toArray wr hz.symm hH hk)
        have HHo : Aside (Holds eU wr w.heap.size 0 (L.map Od.id).toArray) := hH
        have HZ := Lib.hid hz
        clear hown e0 hH hz
        go_wp2_with fail
        refine HSO.out.mono ?_
        rintro e w2 ⟨rfl, d2, S2, P2, O2⟩
        have hd2 : d2.size = i := P2.1.trans HZ.out
        have HC := Lib.hid (compact_c w.heap.size 0 i d2 w2 (S2.holds hk HHo.out (by rw [hd2, HZ.out])) (by omega) (by omega))
        have HCL := Lib.hid (compact_len HZ.out P2 O2)
        have B2 : Hid (Below w.heap.size w w2) := Lib.hid (B1.out.trans (su_below S2 (Nat.le_refl _) B1.out.size))
        rw [hd2] at HC
        clear P2 O2 B1 S2 HSO HHo
        go_wp2_with fail
        refine HC.out.mono ?_
        rintro e w3 ⟨rfl, d3, S3⟩
        have B3 : Hid (Below w.heap.size w w3) := Lib.hid (B2.out.trans (su_below S3 (Nat.le_refl _) B2.out.size))
        have O3 : Aside (Ods w3 A i L) := HO.out.below B3.out
        clear S3 B2 HC
        obtain ⟨m, hm⟩ : ∃ m, (compactUpTo d2 i).length = m := ⟨_, rfl⟩
        have HM := Lib.hid hm
        rw [hm]
        clear hm
        by_cases hmn : m = i
        · subst hmn
          have em : ((m : Int) == (m : Int)) = true := by simp
          have HE : Hid (bookO L = eqL L (sortO L)) := Lib.hid (book_else (by rw [HLn.out]; exact h64) (fun j hj => HJ.out j (by rw [HLn.out] at hj; exact hj)) (HCL.out.1 HM.out))
          have HSd := Lib.hid (sorted_c A m c L w3 O3.out (by omega))
          go_wp2_with fail
          refine HSd.out.mono ?_
          rintro e w4 ⟨A', c', rfl, _, O4, b4⟩
          have HQ := Lib.hid (equal_c A A' m c c' L (sortO L) w4 (O3.out.below b4) O4 (by omega))
          have B4 : Hid (Below w.heap.size w w4) := Lib.hid (B3.out.trans (b4.mono B3.out.size))
          clear O4 b4 O3 B3
          go_wp2_with fail
          refine HQ.out.mono ?_
          rintro e w5 ⟨rfl, k5⟩
          have B5 : Hid (Below w.heap.size w w5) := Lib.hid (B4.out.trans (k5.b.mono B4.out.size))
          clear k5 B4
          go_wp2_with fail
          go_ret
          rw [HE.out]
          exact ⟨rfl, B5.out⟩
        · have em : ((m : Int) == (i : Int)) = false := by rw [beq_eq_false_iff_ne]; omega
          have HE : Hid (bookO L = false) := Lib.hid (book_twice (fun h => hmn (HM.out.symm.trans (HCL.out.2 h))))
          clear hmn
          go_wp2_with fail
          go_ret
          rw [HE.out]
          exact ⟨rfl, B3.out⟩
end Go.Proofs.YtgbmgdffgmablaaGreat

namespace Go.Proofs.YtgbmgdffgmablaaGreat
open Go.RowKit Go.Sort Go.Lib Go.Shelf

/-- The capacity; of nil: none. -/
def CapOk (A : Option Addr) (n c : Nat) : Prop := n ≤ c ∧ (A = none → c = 0)
/-- A row of the call's own reads as orders. -/
theorem own_ods {w : World} {base n : Nat} {T : TypeId} {v : Value} {L : List Od} (h : w.ownsRow base T 6 v n (ol L)) (hn : n ≤ 1000) (hok : ∀ x ∈ L, Od.ok w x) : ∃ A c, v = .slice A n c ∧ CapOk A n c ∧ Ods w A n L := by
  obtain ⟨h1, h2⟩ := h
  rw [ol_len] at h1
  have hl : L.length = n := by omega
  rcases h2 with ⟨hv, h0⟩ | ⟨k, cap, cur, hv, _, hk, hc, hm, hs, ht⟩
  · subst h0; exact ⟨none, 0, hv, ⟨Nat.le_refl _, fun _ => rfl⟩, hl, by omega, hok, .inl rfl⟩
  · refine ⟨_, _, hv, ⟨hc, fun h => by cases h⟩, hl, by omega, hok, .inr ⟨k, 0, rfl, blk_lt hk, fun i hi => ?_⟩⟩
    have hcell : ∀ j v, (ol L)[j]? = some v → w.cell? ⟨k, 0 + j, none⟩ = some v := by
      intro j v hj
      rw [← ht, List.getElem?_take] at hj
      split at hj
      · rw [Array.getElem?_toList] at hj
        rw [Nat.zero_add, cell_of_row _ _ _ _ _ _ hk, hj]
      · cases hj
    have g : ∀ c v, c < 6 → (encO L[i]!)[c]? = some v → w.cell? ⟨k, 0 + i * 6 + c, none⟩ = some v := fun c v hc hv => by
      rw [Nat.add_assoc]
      exact hcell (i * 6 + c) v ((ol_get L i c (by omega) hc).trans hv)
    exact ⟨g 0 _ (by omega) rfl, g 1 _ (by omega) rfl, g 2 _ (by omega) rfl, g 3 _ (by omega) rfl, g 4 _ (by omega) rfl, g 5 _ (by omega) rfl⟩
theorem ol_snoc {L : List Od} {k : Nat} (h : k < L.length) : ol (L.take (k + 1)) = ol (L.take k) ++ encO L[k]! := by
  unfold ol
  rw [List.take_succ_eq_append_getElem h, List.flatMap_append, getElem!_pos L k h]
  simp
theorem ol_app (L : List Od) (x : Od) : ol (L ++ [x]) = ol L ++ encO x := by
  unfold ol
  rw [List.flatMap_append]
  simp
theorem six_news (w : World) (x : Od) : ∀ (j : Nat) (u : Value), (encO x)[j]? = some u → (w.alloc (Obj.cells (OC x) 49)).cell? ((⟨w.heap.size, 0, none⟩ : Addr).add j) = some u := by
  intro j u hu
  rw [addr_add, cell_of_row _ _ _ _ _ _ (heap_alloc_new w _)]
  match j, hu with
  | 0, hu => simpa [encO] using hu
  | 1, hu => simpa [encO] using hu
  | 2, hu => simpa [encO] using hu
  | 3, hu => simpa [encO] using hu
  | 4, hu => simpa [encO] using hu
  | 5, hu => simpa [encO] using hu
theorem info_ro : (Tryz.prog.info? 49).map (fun i => (i.zero, i.size, i.bytes)) = some (some (.agg (OC ⟨0, 0, 0, 0, 0, 0⟩)), 6, 48) := by kernel_rfl
theorem enc_one (x : Od) : ∀ u ∈ encO x, u.oneCell' = true := fun u hu => encD_one (x, 0) u hu

/-- Orders that came back in a row of their own. -/
def RowIs (w : World) (L : List Od) (e : Ending) (w' : World) : Prop := ∃ A n c, e = .returned (.slice A n c) ∧ Hid (Below w.heap.size w w' ∧ Ods w' A n L ∧ CapOk A n c)

set_option maxHeartbeats 4000000 in
set_option maxRecDepth 1000000 in
theorem plain_c (A : Option Addr) (n c : Nat) (L : List Od) (w : World) (H : Ods w A n L) (hn : n ≤ 1000) :
    Calls Tryz.prog 12 #[.slice A n c] w (RowIs w L) := by
  obtain ⟨i0, hi0, hz0, hz1, hz2⟩ := info_parts info_ro
  have HO : Aside (Ods w A n L) := H
  have HLn := Lib.hid H.1
  clear H
  go_enter Tryz.func12, Tryz.ntmps12
  go_wp2_with fail
  go_loopg [3, 8] n (fun kx v s8 wr => ∃ k : Nat, s8 = .int .i64 k ∧ k ≤ n ∧ n - k ≤ kx ∧ wr.ownsRow w.heap.size 49 6 v k (ol (L.take k)) ∧ Hid (Below w.heap.size w wr))
  case atStart => exact ⟨0, rfl, by omega, by omega, World.ownsRow_nil _ _ _ _, Below.refl _ _⟩
  case round =>
    obtain ⟨k, rfl, hk, hkx, hown, hd⟩ := hrel
    by_cases hlt : k < n
    · have hltI : (k : Int) < (n : Int) := by omega
      have h1 := (HO.out.below hd.out).2.2.2
      rcases h1 with h1 | ⟨b, off, rfl, _, hc⟩
      · omega
      have hx := hc k hlt
      clear hc
      have HN := Lib.hid (ol_snoc (L := L) (k := k) (by rw [HLn.out]; exact hlt))
      obtain ⟨x, ex⟩ : ∃ x, L[k]! = x := ⟨_, rfl⟩
      rw [ex] at hx HN
      clear ex
      obtain ⟨x0, x1, x2, x3, x4, x5⟩ := hx
      have hsz := hd.out.size
      go_wp2_with (at_builtin; refine wpList_append_own _ rfl _ _ 29 rfl w.heap.size 49 i0 (.agg (OC ⟨0, 0, 0, 0, 0, 0⟩)) 6 48 Tryz.underlying29 hi0 hz0 hz1 hz2 rfl (by decide) _ _ _ rfl ((hown.alloc (Obj.cells (OC x) 38)).alloc _) ⟨wr.heap.size + 1, 0, none⟩ 1 1 (encO x) rfl rfl ?c1 ?c2 ?c3 ?c4 ?c5 ?_)
      case c1 =>
        have e1 : wr.heap.size + 1 = (wr.alloc (Obj.cells (OC x) 38)).heap.size := by simp
        rw [e1]
        exact six_news _ x
      case c2 => exact enc_one x
      case c3 => unfold maxLen; omega
      case c4 => omega
      case c5 => simp; omega
      intro v1 w1 hown1 hg1 _
      have hB1 : Hid (Below w.heap.size w w1) := Below.grown ((hd.out.alloc hsz _).alloc (by simp; omega) _) hg1 (by simp; omega) (fun k hk => (hown.lt k hk).1)
      rw [← HN.out] at hown1
      clear hg1 hown hd
      go_wp2_with fail
      go_roundg (n - (k + 1))
      case measure => omega
      case rel => exact ⟨k + 1, by go_num, by omega, by omega, hown1, hB1⟩
    · have hltI : ¬ (k : Int) < (n : Int) := by omega
      obtain rfl : k = n := by omega
      rw [List.take_of_length_le (by rw [HLn.out]; exact Nat.le_refl _)] at hown
      obtain ⟨A', c', rfl, hc, ht⟩ := own_ods hown hn (fun x hx => (HO.out.below hd.out).2.2.1 x hx)
      have HF : Hid (Below w.heap.size w wr ∧ Ods wr A' k L ∧ CapOk A' k c') := ⟨hd.out, ht, hc⟩
      clear hown ht hd
      go_wp2_with fail
      go_ret
      exact ⟨A', k, c', rfl, HF.out⟩

set_option maxHeartbeats 4000000 in
set_option maxRecDepth 1000000 in
theorem same_c (A B : Option Addr) (n c c' : Nat) (L M : List Od) (w : World) (H : Ods w A n L) (K : Ods w B n M) (hn : n ≤ 1000) :
    Calls Tryz.prog 14 #[.slice A n c, .slice B n c'] w (EqIs w (eqL L M)) := by
  have mixed : Tryz.prog.follows .mixedOrders = true := by kernel_rfl
  obtain ⟨hl, _, _, h⟩ := H
  obtain ⟨kl, _, _, k⟩ := K
  have HLn := Lib.hid hl
  have KLn := Lib.hid kl
  have HH := Lib.hid h
  have KK := Lib.hid k
  have HE := Lib.hid (fun q : Nat => (show EqIs w (eqL L M) (.returned (.bool (eqL L M))) (w.drewN q) from ⟨rfl, ⟨below_drewN (Below.refl _ _) _, Nat.le_add_right _ _⟩⟩))
  clear hl kl h k
  go_enter Tryz.func14, Tryz.ntmps14
  have enn : ((n : Int) == (n : Int)) = true := by simp
  go_wp2
  go_loopg [13] n (fun kx s13 wr => ∃ i q : Nat, s13 = .int .i64 i ∧ i ≤ n ∧ n - i ≤ kx ∧ wr = w.drewN q ∧ Hid (∀ j, j < i → L[j]! = M[j]!))
  case atStart => exact ⟨0, 0, rfl, by omega, by omega, rfl, Lib.hid (fun j hj => by omega)⟩
  case round =>
    obtain ⟨i, q, rfl, hin, hkx, rfl, HI⟩ := hrel
    by_cases hlt : i < n
    · have hltz : (i : Int) < (n : Int) := by omega
      have h1 := HH.out
      have k1 := KK.out
      rcases h1 with h1 | ⟨b, off, rfl, _, hc⟩
      · omega
      rcases k1 with k1 | ⟨b', off', rfl, _, kc⟩
      · omega
      have hx := hc i hlt
      have hy := kc i hlt
      clear hc kc
      obtain ⟨x, ex⟩ : ∃ x, L[i]! = x := ⟨_, rfl⟩
      obtain ⟨y, ey⟩ : ∃ y, M[i]! = y := ⟨_, rfl⟩
      rw [ex] at hx
      rw [ey] at hy
      have XY : Hid (L[i]! = x ∧ M[i]! = y) := ⟨ex, ey⟩
      clear ex ey
      obtain ⟨x0, x1, x2, x3, x4, x5⟩ := hx
      obtain ⟨y0, y1, y2, y3, y4, y5⟩ := hy
      have hq := neqR x y
      cases he : eqO x y with
      | true =>
        rw [he] at hq
        have HN : Hid (∀ j, j < i + 1 → L[j]! = M[j]!) := Lib.hid (fun j hj => by
          by_cases e : j < i
          · exact HI.out j e
          · obtain rfl : j = i := by omega
            rw [XY.out.1, XY.out.2]; exact (eqO_iff x y).1 he)
        clear he
        go_wp2_with fail
        go_quiet (fail)
        go_wp2_with fail
        go_roundg (n - (i + 1))
        case measure => omega
        case rel => exact ⟨i + 1, q + nq, by go_num, by omega, by omega, (by first | rfl | exact World.drewN_drewN _ _ _), HN⟩
      | false =>
        rw [he] at hq
        have HF : Hid (eqL L M = false) := Lib.hid (eqL_no (i := i) (by rw [HLn.out]; exact hlt) (by rw [HLn.out, KLn.out]) (by rw [XY.out.1, XY.out.2]; exact he))
        clear he
        go_wp2_with fail
        go_quiet (fail)
        go_wp2_with fail
        go_ret
        try rw [World.drewN_drewN]
        have := HE.out (q + nq)
        rw [HF.out] at this
        rw [HF.out]
        exact this
    · have hltz : ¬ (i : Int) < (n : Int) := by omega
      obtain rfl : i = n := by omega
      have HF : Hid (eqL L M = true) := Lib.hid (eqL_yes (by rw [HLn.out, KLn.out]) (fun j hj => HI.out j (by rw [HLn.out] at hj; exact hj)))
      go_wp2
      go_ret
      have := HE.out q
      rw [HF.out] at this
      rw [HF.out]
      exact this
end Go.Proofs.YtgbmgdffgmablaaGreat

namespace Go.Proofs.YtgbmgdffgmablaaGreat
open Go.RowKit Go.Sort Go.Lib Go.Shelf

def x1 : Od := ⟨1, 0, 1, 10, 1, 2⟩
def x2 : Od := ⟨2, 0, 1, 11, 1, 3⟩
def x3 : Od := ⟨3, 0, 1, 10, 1, 1⟩
end Go.Proofs.YtgbmgdffgmablaaGreat

namespace Go.Proofs.YtgbmgdffgmablaaGreat
open Go.RowKit Go.Sort Go.Lib Go.Shelf

theorem gw_grow (w : World) (n : Nat) (os : Array Obj) : Gw w (grow (w.drewN n) os) :=
  ⟨⟨rfl, rfl, rfl, by rw [size_grow]; exact Nat.le_add_right _ _, fun j hj => by rw [heap_grow_old _ _ (by exact hj)]; rfl⟩, Nat.le_add_right _ _⟩
end Go.Proofs.YtgbmgdffgmablaaGreat

namespace Go.Proofs.YtgbmgdffgmablaaGreat
open Go.RowKit

/-- The bits below k alone. -/
def below (f : Nat → Bool) (k : Nat) : Nat → Bool := fun j => decide (j < k) && f j
def up (f : Nat → Bool) (k : Nat) : Nat → Bool := fun j => if k < j then f (j - 1) else f j
end Go.Proofs.YtgbmgdffgmablaaGreat

namespace Go.Proofs.YtgbmgdffgmablaaGreat
open Go.RowKit

theorem Below.row {B g : Nat} {w0 w : World} (hb : Below B w0 w) (hBg : B ≤ g) (cs : Array Value) : Below B w0 (w.setRow g cs) :=
  hb.trans ⟨rfl, rfl, rfl, by simp [World.setRow], fun k hk => setRow_other w g k cs (by omega)⟩
section
variable {ops : Array Oper} {rest : List Oper} {o : Oper} {a : Act} {w : World} {Q : Exit → Act → World → Prop}
end
end Go.Proofs.YtgbmgdffgmablaaGreat

namespace Go.Proofs.YtgbmgdffgmablaaGreat
open Go.RowKit

end Go.Proofs.YtgbmgdffgmablaaGreat

namespace Go.Proofs.YtgbmgdffgmablaaGreat
open Go.RowKit

end Go.Proofs.YtgbmgdffgmablaaGreat

namespace Go.Proofs.YtgbmgdffgmablaaGreat
open Go.RowKit

end Go.Proofs.YtgbmgdffgmablaaGreat

namespace Go.Proofs.YtgbmgdffgmablaaGreat
open Go.RowKit

end Go.Proofs.YtgbmgdffgmablaaGreat

namespace Go.Proofs.YtgbmgdffgmablaaGreat
open Go.RowKit

end Go.Proofs.YtgbmgdffgmablaaGreat

namespace Go.Proofs.YtgbmgdffgmablaaGreat
open Go.RowKit

end Go.Proofs.YtgbmgdffgmablaaGreat

namespace Go.Proofs.YtgbmgdffgmablaaGreat
open Go.RowKit

end Go.Proofs.YtgbmgdffgmablaaGreat

namespace Go.Proofs.YtgbmgdffgmablaaGreat
open Go.RowKit

end Go.Proofs.YtgbmgdffgmablaaGreat

namespace Go.Proofs.YtgbmgdffgmablaaGreat
open Go.RowKit

end Go.Proofs.YtgbmgdffgmablaaGreat

namespace Go.Proofs.YtgbmgdffgmablaaGreat
open Go.RowKit

end Go.Proofs.YtgbmgdffgmablaaGreat

namespace Go.Proofs.YtgbmgdffgmablaaGreat
open Go.RowKit

end Go.Proofs.YtgbmgdffgmablaaGreat

namespace Go.Proofs.YtgbmgdffgmablaaGreat
open Go.RowKit

def hiOf (x : Int) : Int := x / 18446744073709551616
def loOf (x : Int) : Int := x % 18446744073709551616
abbrev PV (x : Int) : Value := .agg #[.int .i64 (hiOf x), .int .u64 (loOf x)]
end Go.Proofs.YtgbmgdffgmablaaGreat

namespace Go.Proofs.YtgbmgdffgmablaaGreat
open Go.RowKit

end Go.Proofs.YtgbmgdffgmablaaGreat

namespace Go.Proofs.YtgbmgdffgmablaaGreat
open Go.RowKit

end Go.Proofs.YtgbmgdffgmablaaGreat

namespace Go.Proofs.YtgbmgdffgmablaaGreat
open Go.RowKit

end Go.Proofs.YtgbmgdffgmablaaGreat

namespace Go.Proofs.YtgbmgdffgmablaaGreat
open Go.RowKit

end Go.Proofs.YtgbmgdffgmablaaGreat

namespace Go.Proofs.YtgbmgdffgmablaaGreat
open Go.RowKit

end Go.Proofs.YtgbmgdffgmablaaGreat

namespace Go.Proofs.YtgbmgdffgmablaaGreat
open Go.RowKit

end Go.Proofs.YtgbmgdffgmablaaGreat

namespace Go.Proofs.YtgbmgdffgmablaaGreat
open Go.RowKit

end Go.Proofs.YtgbmgdffgmablaaGreat

namespace Go.Proofs.YtgbmgdffgmablaaGreat
open Go.RowKit

end Go.Proofs.YtgbmgdffgmablaaGreat

namespace Go.Proofs.YtgbmgdffgmablaaGreat
open Go.RowKit

end Go.Proofs.YtgbmgdffgmablaaGreat

namespace Go.Proofs.YtgbmgdffgmablaaGreat
open Go.RowKit Go.Sort Go.Lib Go.Shelf

section
variable {ops : Array Oper} {rest : List Oper} {o : Oper} {a : Act} {w : World} {Q : Exit → Act → World → Prop}
end
set_option maxHeartbeats 4000000 in
set_option maxRecDepth 100000 in
theorem rBetter_c (s a b : Int) (w : World) : Calls Tryz.prog 118 #[.int .i64 s, .int .i64 a, .int .i64 b] w fun e w' => e = .returned (.bool (betN s a b)) ∧ w = w' := by
  by_cases h1 : s = 1
  · have e1 : (s == 1) = true := by simp [h1]
    have e2 : (s == 2) = false := by simp [h1]
    by_cases hd : b < a
    · have e : betN s a b = true := by unfold betN; simp [h1, hd]
      have g := decide_eq_true hd
      rw [e]
      clear h1 e
      go_enter Tryz.func118, Tryz.ntmps118
      go_wp2_with fail
      go_ret
      exact ⟨rfl, rfl⟩
    · have e : betN s a b = false := by unfold betN; simp [h1]; omega
      have g := decide_eq_false hd
      rw [e]
      clear h1 e
      go_enter Tryz.func118, Tryz.ntmps118
      go_wp2_with fail
      go_ret
      exact ⟨rfl, rfl⟩
  have e1 : (s == 1) = false := by simp [h1]
  by_cases h2 : s = 2
  · have e2 : (s == 2) = true := by simp [h2]
    by_cases hd : a < b
    · have e : betN s a b = true := by unfold betN; simp [h2, hd]
      have g := decide_eq_true hd
      rw [e]
      clear h1 h2 e
      go_enter Tryz.func118, Tryz.ntmps118
      go_wp2_with fail
      go_ret
      exact ⟨rfl, rfl⟩
    · have e : betN s a b = false := by unfold betN; simp [h2]; omega
      have g := decide_eq_false hd
      rw [e]
      clear h1 h2 e
      go_enter Tryz.func118, Tryz.ntmps118
      go_wp2_with fail
      go_ret
      exact ⟨rfl, rfl⟩
  have e2 : (s == 2) = false := by simp [h2]
  have e : betN s a b = false := by unfold betN; simp [h1, h2]
  rw [e]
  clear h1 h2 e
  go_enter Tryz.func118, Tryz.ntmps118
  go_wp2_with fail
  go_ret
  exact ⟨rfl, rfl⟩
set_option maxHeartbeats 4000000 in
set_option maxRecDepth 100000 in
theorem ra_unlike (x y : Od) (w : World) (h : x.side ≠ y.side) : Calls Tryz.prog 83 #[.agg #[.int .u64 x.id, .int .i64 x.acc, .int .i64 x.side, .int .i64 x.price, .int .i64 x.qty, .int .u64 x.seq], .agg #[.int .u64 y.id, .int .i64 y.acc, .int .i64 y.side, .int .i64 y.price, .int .i64 y.qty, .int .u64 y.seq]] w fun e w' => e = .returned (.bool (false)) ∧ Gw w w' := by
  have e1 : (x.side != y.side) = true := by simp [h]
  clear h
  go_enter Tryz.func83, Tryz.ntmps83
  go_wp2_with fail
  go_ret
  exact ⟨rfl, ((Gw.refl w).alloc _).alloc _⟩
set_option maxHeartbeats 4000000 in
set_option maxRecDepth 100000 in
theorem ra_low (x y : Od) (w : World) (h : x.side = y.side) (h2 : x.side < 1) : Calls Tryz.prog 83 #[.agg #[.int .u64 x.id, .int .i64 x.acc, .int .i64 x.side, .int .i64 x.price, .int .i64 x.qty, .int .u64 x.seq], .agg #[.int .u64 y.id, .int .i64 y.acc, .int .i64 y.side, .int .i64 y.price, .int .i64 y.qty, .int .u64 y.seq]] w fun e w' => e = .returned (.bool (false)) ∧ Gw w w' := by
  have e1 : (x.side != y.side) = false := by simp [h]
  clear h
  go_enter Tryz.func83, Tryz.ntmps83
  go_wp2_with fail
  go_ret
  exact ⟨rfl, ((Gw.refl w).alloc _).alloc _⟩
set_option maxHeartbeats 4000000 in
set_option maxRecDepth 100000 in
theorem ra_high (x y : Od) (w : World) (h : x.side = y.side) (h2 : 2 < x.side) : Calls Tryz.prog 83 #[.agg #[.int .u64 x.id, .int .i64 x.acc, .int .i64 x.side, .int .i64 x.price, .int .i64 x.qty, .int .u64 x.seq], .agg #[.int .u64 y.id, .int .i64 y.acc, .int .i64 y.side, .int .i64 y.price, .int .i64 y.qty, .int .u64 y.seq]] w fun e w' => e = .returned (.bool (false)) ∧ Gw w w' := by
  have e1 : (x.side != y.side) = false := by simp [h]
  have e2 : ¬ x.side < 1 := by omega
  clear h
  go_enter Tryz.func83, Tryz.ntmps83
  go_wp2_with fail
  go_ret
  exact ⟨rfl, ((Gw.refl w).alloc _).alloc _⟩
set_option maxHeartbeats 4000000 in
set_option maxRecDepth 100000 in
theorem ra_price (x y : Od) (w : World) (h : x.side = y.side) (h1 : 1 ≤ x.side) (h2 : x.side ≤ 2) (h3 : x.price ≠ y.price) : Calls Tryz.prog 83 #[.agg #[.int .u64 x.id, .int .i64 x.acc, .int .i64 x.side, .int .i64 x.price, .int .i64 x.qty, .int .u64 x.seq], .agg #[.int .u64 y.id, .int .i64 y.acc, .int .i64 y.side, .int .i64 y.price, .int .i64 y.qty, .int .u64 y.seq]] w fun e w' => e = .returned (.bool (betN x.side x.price y.price)) ∧ Gw w w' := by
  have e1 : (x.side != y.side) = false := by simp [h]
  have e2 : ¬ x.side < 1 := by omega
  have e3 : ¬ 2 < x.side := by omega
  have e4 : (x.price != y.price) = true := by simp [h3]
  have HB := Lib.hid (rBetter_c x.side x.price y.price)
  generalize betN x.side x.price y.price = r at *
  clear h h1 h2 h3
  go_enter Tryz.func83, Tryz.ntmps83
  go_wp2_with ((with_reducible refine (HB.out _).mono ?_); rintro e w' ⟨rfl, rfl⟩)
  go_ret
  exact ⟨rfl, ((Gw.refl w).alloc _).alloc _⟩
set_option maxHeartbeats 4000000 in
set_option maxRecDepth 100000 in
theorem ra_seq (x y : Od) (w : World) (h : x.side = y.side) (h1 : 1 ≤ x.side) (h2 : x.side ≤ 2) (h3 : x.price = y.price) (h4 : x.seq ≠ y.seq) : Calls Tryz.prog 83 #[.agg #[.int .u64 x.id, .int .i64 x.acc, .int .i64 x.side, .int .i64 x.price, .int .i64 x.qty, .int .u64 x.seq], .agg #[.int .u64 y.id, .int .i64 y.acc, .int .i64 y.side, .int .i64 y.price, .int .i64 y.qty, .int .u64 y.seq]] w fun e w' => e = .returned (.bool (decide (x.seq < y.seq))) ∧ Gw w w' := by
  have e1 : (x.side != y.side) = false := by simp [h]
  have e2 : ¬ x.side < 1 := by omega
  have e3 : ¬ 2 < x.side := by omega
  have e4 : (x.price != y.price) = false := by simp [h3]
  have e5 : (x.seq != y.seq) = true := by simp [h4]
  clear h h1 h2 h3 h4
  go_enter Tryz.func83, Tryz.ntmps83
  go_wp2_with fail
  go_ret
  exact ⟨rfl, ((Gw.refl w).alloc _).alloc _⟩
set_option maxHeartbeats 4000000 in
set_option maxRecDepth 100000 in
theorem ra_id (x y : Od) (w : World) (h : x.side = y.side) (h1 : 1 ≤ x.side) (h2 : x.side ≤ 2) (h3 : x.price = y.price) (h4 : x.seq = y.seq) : Calls Tryz.prog 83 #[.agg #[.int .u64 x.id, .int .i64 x.acc, .int .i64 x.side, .int .i64 x.price, .int .i64 x.qty, .int .u64 x.seq], .agg #[.int .u64 y.id, .int .i64 y.acc, .int .i64 y.side, .int .i64 y.price, .int .i64 y.qty, .int .u64 y.seq]] w fun e w' => e = .returned (.bool (decide (x.id < y.id))) ∧ Gw w w' := by
  have e1 : (x.side != y.side) = false := by simp [h]
  have e2 : ¬ x.side < 1 := by omega
  have e3 : ¬ 2 < x.side := by omega
  have e4 : (x.price != y.price) = false := by simp [h3]
  have e5 : (x.seq != y.seq) = false := by simp [h4]
  clear h h1 h2 h3 h4
  go_enter Tryz.func83, Tryz.ntmps83
  go_wp2_with fail
  go_ret
  exact ⟨rfl, ((Gw.refl w).alloc _).alloc _⟩
theorem cmp_lt (q i q' i' : Int) : decide ((if cmpN q q' = 0 then cmpN i i' else cmpN q q') < 0) = if q ≠ q' then decide (q < q') else decide (i < i') := by
  by_cases h : q = q'
  · rw [if_pos ((cmpN_0 q q').2 h), if_neg (fun k => k h)]
    by_cases k : i < i'
    · rw [decide_eq_true k]; exact decide_eq_true ((cmpN_lt i i').2 k)
    · rw [decide_eq_false k]; exact decide_eq_false (fun h => k ((cmpN_lt i i').1 h))
  · rw [if_pos h, if_neg (fun k => h ((cmpN_0 q q').1 k))]
    by_cases k : q < q'
    · rw [decide_eq_true k]; exact decide_eq_true ((cmpN_lt q q').2 k)
    · rw [decide_eq_false k]; exact decide_eq_false (fun h => k ((cmpN_lt q q').1 h))
theorem rAhead_c (x y : Od) (w : World) : Calls Tryz.prog 83 #[.agg #[.int .u64 x.id, .int .i64 x.acc, .int .i64 x.side, .int .i64 x.price, .int .i64 x.qty, .int .u64 x.seq], .agg #[.int .u64 y.id, .int .i64 y.acc, .int .i64 y.side, .int .i64 y.price, .int .i64 y.qty, .int .u64 y.seq]] w fun e w' => e = .returned (.bool (ahdO x y)) ∧ Gw w w' := by
  unfold ahdO ahdN
  by_cases h : x.side = y.side
  rotate_left
  · rw [if_pos (.inl h)]; exact ra_unlike x y w h
  by_cases h1 : x.side < 1
  · rw [if_pos (.inr (by omega))]; exact ra_low x y w h h1
  by_cases h2 : 2 < x.side
  · rw [if_pos (.inr (by omega))]; exact ra_high x y w h h2
  rw [if_neg (by omega)]
  by_cases h3 : x.price = y.price
  rotate_left
  · rw [if_pos h3]; exact ra_price x y w h (by omega) (by omega) h3
  rw [if_neg (by simp [h3]), cmp_lt]
  by_cases h4 : x.seq = y.seq
  rotate_left
  · rw [if_pos h4]; exact ra_seq x y w h (by omega) (by omega) h3 h4
  rw [if_neg (by simp [h4])]
  exact ra_id x y w h (by omega) (by omega) h3 h4
set_option maxHeartbeats 4000000 in
set_option maxRecDepth 100000 in
theorem rg_w0_1 (x : Od) (w : World) (h0 : ¬ (0 ≤ x.acc)) : Calls Tryz.prog 46 #[.agg #[.int .u64 x.id, .int .i64 x.acc, .int .i64 x.side, .int .i64 x.price, .int .i64 x.qty, .int .u64 x.seq]] w fun e w' => e = .returned (.bool false) ∧ Gw w w' := by
  have g : decide (0 ≤ x.acc) = false := decide_eq_false h0
  go_enter Tryz.func46, Tryz.ntmps46
  go_wp2_with fail
  go_ret
  exact ⟨rfl, (Gw.refl w).alloc _⟩
set_option maxHeartbeats 4000000 in
set_option maxRecDepth 100000 in
theorem rg_w1_1 (x : Od) (w : World) (h0 : (0 ≤ x.acc)) (h1 : ¬ (x.acc < 8)) : Calls Tryz.prog 46 #[.agg #[.int .u64 x.id, .int .i64 x.acc, .int .i64 x.side, .int .i64 x.price, .int .i64 x.qty, .int .u64 x.seq]] w fun e w' => e = .returned (.bool false) ∧ Gw w w' := by
  have g : decide (x.acc < 8) = false := decide_eq_false h1
  go_enter Tryz.func46, Tryz.ntmps46
  go_wp2_with fail
  go_ret
  exact ⟨rfl, (Gw.refl w).alloc _⟩
set_option maxHeartbeats 4000000 in
set_option maxRecDepth 100000 in
theorem rg_w2_1 (x : Od) (w : World) (h0 : (0 ≤ x.acc)) (h1 : (x.acc < 8)) (h2 : (x.side == 1) = false) (h2' : (x.side == 2) = false) : Calls Tryz.prog 46 #[.agg #[.int .u64 x.id, .int .i64 x.acc, .int .i64 x.side, .int .i64 x.price, .int .i64 x.qty, .int .u64 x.seq]] w fun e w' => e = .returned (.bool false) ∧ Gw w w' := by
  go_enter Tryz.func46, Tryz.ntmps46
  go_wp2_with fail
  go_ret
  exact ⟨rfl, (Gw.refl w).alloc _⟩
set_option maxHeartbeats 4000000 in
set_option maxRecDepth 100000 in
theorem rg_w3_1 (x : Od) (w : World) (h0 : (0 ≤ x.acc)) (h1 : (x.acc < 8)) (h2 : (x.side == 1) = true) (h3 : ¬ (1 ≤ x.price)) : Calls Tryz.prog 46 #[.agg #[.int .u64 x.id, .int .i64 x.acc, .int .i64 x.side, .int .i64 x.price, .int .i64 x.qty, .int .u64 x.seq]] w fun e w' => e = .returned (.bool false) ∧ Gw w w' := by
  have g : decide (1 ≤ x.price) = false := decide_eq_false h3
  go_enter Tryz.func46, Tryz.ntmps46
  go_wp2_with fail
  go_ret
  exact ⟨rfl, (Gw.refl w).alloc _⟩
set_option maxHeartbeats 4000000 in
set_option maxRecDepth 100000 in
theorem rg_w3_2 (x : Od) (w : World) (h0 : (0 ≤ x.acc)) (h1 : (x.acc < 8)) (h2 : (x.side == 1) = false) (h2' : (x.side == 2) = true) (h3 : ¬ (1 ≤ x.price)) : Calls Tryz.prog 46 #[.agg #[.int .u64 x.id, .int .i64 x.acc, .int .i64 x.side, .int .i64 x.price, .int .i64 x.qty, .int .u64 x.seq]] w fun e w' => e = .returned (.bool false) ∧ Gw w w' := by
  have g : decide (1 ≤ x.price) = false := decide_eq_false h3
  go_enter Tryz.func46, Tryz.ntmps46
  go_wp2_with fail
  go_ret
  exact ⟨rfl, (Gw.refl w).alloc _⟩
set_option maxHeartbeats 4000000 in
set_option maxRecDepth 100000 in
theorem rg_w4_1 (x : Od) (w : World) (h0 : (0 ≤ x.acc)) (h1 : (x.acc < 8)) (h2 : (x.side == 1) = true) (h3 : (1 ≤ x.price)) (h4 : ¬ (x.price ≤ 1099511627776)) : Calls Tryz.prog 46 #[.agg #[.int .u64 x.id, .int .i64 x.acc, .int .i64 x.side, .int .i64 x.price, .int .i64 x.qty, .int .u64 x.seq]] w fun e w' => e = .returned (.bool false) ∧ Gw w w' := by
  have g : decide (x.price ≤ 1099511627776) = false := decide_eq_false h4
  go_enter Tryz.func46, Tryz.ntmps46
  go_wp2_with fail
  go_ret
  exact ⟨rfl, (Gw.refl w).alloc _⟩
set_option maxHeartbeats 4000000 in
set_option maxRecDepth 100000 in
theorem rg_w4_2 (x : Od) (w : World) (h0 : (0 ≤ x.acc)) (h1 : (x.acc < 8)) (h2 : (x.side == 1) = false) (h2' : (x.side == 2) = true) (h3 : (1 ≤ x.price)) (h4 : ¬ (x.price ≤ 1099511627776)) : Calls Tryz.prog 46 #[.agg #[.int .u64 x.id, .int .i64 x.acc, .int .i64 x.side, .int .i64 x.price, .int .i64 x.qty, .int .u64 x.seq]] w fun e w' => e = .returned (.bool false) ∧ Gw w w' := by
  have g : decide (x.price ≤ 1099511627776) = false := decide_eq_false h4
  go_enter Tryz.func46, Tryz.ntmps46
  go_wp2_with fail
  go_ret
  exact ⟨rfl, (Gw.refl w).alloc _⟩
set_option maxHeartbeats 4000000 in
set_option maxRecDepth 100000 in
theorem rg_w5_1 (x : Od) (w : World) (h0 : (0 ≤ x.acc)) (h1 : (x.acc < 8)) (h2 : (x.side == 1) = true) (h3 : (1 ≤ x.price)) (h4 : (x.price ≤ 1099511627776)) (h5 : ¬ (1 ≤ x.qty)) : Calls Tryz.prog 46 #[.agg #[.int .u64 x.id, .int .i64 x.acc, .int .i64 x.side, .int .i64 x.price, .int .i64 x.qty, .int .u64 x.seq]] w fun e w' => e = .returned (.bool false) ∧ Gw w w' := by
  have g : decide (1 ≤ x.qty) = false := decide_eq_false h5
  go_enter Tryz.func46, Tryz.ntmps46
  go_wp2_with fail
  go_ret
  exact ⟨rfl, (Gw.refl w).alloc _⟩
set_option maxHeartbeats 4000000 in
set_option maxRecDepth 100000 in
theorem rg_w5_2 (x : Od) (w : World) (h0 : (0 ≤ x.acc)) (h1 : (x.acc < 8)) (h2 : (x.side == 1) = false) (h2' : (x.side == 2) = true) (h3 : (1 ≤ x.price)) (h4 : (x.price ≤ 1099511627776)) (h5 : ¬ (1 ≤ x.qty)) : Calls Tryz.prog 46 #[.agg #[.int .u64 x.id, .int .i64 x.acc, .int .i64 x.side, .int .i64 x.price, .int .i64 x.qty, .int .u64 x.seq]] w fun e w' => e = .returned (.bool false) ∧ Gw w w' := by
  have g : decide (1 ≤ x.qty) = false := decide_eq_false h5
  go_enter Tryz.func46, Tryz.ntmps46
  go_wp2_with fail
  go_ret
  exact ⟨rfl, (Gw.refl w).alloc _⟩
set_option maxHeartbeats 4000000 in
set_option maxRecDepth 100000 in
theorem rg_w6_1 (x : Od) (w : World) (h0 : (0 ≤ x.acc)) (h1 : (x.acc < 8)) (h2 : (x.side == 1) = true) (h3 : (1 ≤ x.price)) (h4 : (x.price ≤ 1099511627776)) (h5 : (1 ≤ x.qty)) (h6 : ¬ (x.qty ≤ 1099511627776)) : Calls Tryz.prog 46 #[.agg #[.int .u64 x.id, .int .i64 x.acc, .int .i64 x.side, .int .i64 x.price, .int .i64 x.qty, .int .u64 x.seq]] w fun e w' => e = .returned (.bool false) ∧ Gw w w' := by
  have g : decide (x.qty ≤ 1099511627776) = false := decide_eq_false h6
  go_enter Tryz.func46, Tryz.ntmps46
  go_wp2_with fail
  go_ret
  exact ⟨rfl, (Gw.refl w).alloc _⟩
set_option maxHeartbeats 4000000 in
set_option maxRecDepth 100000 in
theorem rg_w6_2 (x : Od) (w : World) (h0 : (0 ≤ x.acc)) (h1 : (x.acc < 8)) (h2 : (x.side == 1) = false) (h2' : (x.side == 2) = true) (h3 : (1 ≤ x.price)) (h4 : (x.price ≤ 1099511627776)) (h5 : (1 ≤ x.qty)) (h6 : ¬ (x.qty ≤ 1099511627776)) : Calls Tryz.prog 46 #[.agg #[.int .u64 x.id, .int .i64 x.acc, .int .i64 x.side, .int .i64 x.price, .int .i64 x.qty, .int .u64 x.seq]] w fun e w' => e = .returned (.bool false) ∧ Gw w w' := by
  have g : decide (x.qty ≤ 1099511627776) = false := decide_eq_false h6
  go_enter Tryz.func46, Tryz.ntmps46
  go_wp2_with fail
  go_ret
  exact ⟨rfl, (Gw.refl w).alloc _⟩
set_option maxHeartbeats 4000000 in
set_option maxRecDepth 100000 in
theorem rg_w7_1 (x : Od) (w : World) (h0 : (0 ≤ x.acc)) (h1 : (x.acc < 8)) (h2 : (x.side == 1) = true) (h3 : (1 ≤ x.price)) (h4 : (x.price ≤ 1099511627776)) (h5 : (1 ≤ x.qty)) (h6 : (x.qty ≤ 1099511627776)) : Calls Tryz.prog 46 #[.agg #[.int .u64 x.id, .int .i64 x.acc, .int .i64 x.side, .int .i64 x.price, .int .i64 x.qty, .int .u64 x.seq]] w fun e w' => e = .returned (.bool true) ∧ Gw w w' := by
  go_enter Tryz.func46, Tryz.ntmps46
  go_wp2_with fail
  go_ret
  exact ⟨rfl, (Gw.refl w).alloc _⟩
set_option maxHeartbeats 4000000 in
set_option maxRecDepth 100000 in
theorem rg_w7_2 (x : Od) (w : World) (h0 : (0 ≤ x.acc)) (h1 : (x.acc < 8)) (h2 : (x.side == 1) = false) (h2' : (x.side == 2) = true) (h3 : (1 ≤ x.price)) (h4 : (x.price ≤ 1099511627776)) (h5 : (1 ≤ x.qty)) (h6 : (x.qty ≤ 1099511627776)) : Calls Tryz.prog 46 #[.agg #[.int .u64 x.id, .int .i64 x.acc, .int .i64 x.side, .int .i64 x.price, .int .i64 x.qty, .int .u64 x.seq]] w fun e w' => e = .returned (.bool true) ∧ Gw w w' := by
  go_enter Tryz.func46, Tryz.ntmps46
  go_wp2_with fail
  go_ret
  exact ⟨rfl, (Gw.refl w).alloc _⟩
theorem rGood_c (x : Od) (w : World) : Calls Tryz.prog 46 #[.agg #[.int .u64 x.id, .int .i64 x.acc, .int .i64 x.side, .int .i64 x.price, .int .i64 x.qty, .int .u64 x.seq]] w fun e w' => e = .returned (.bool (goodO x)) ∧ Gw w w' := by
  unfold goodO
  by_cases h0 : 0 ≤ x.acc
  rotate_left
  · rw [decide_eq_false h0]; simp only [Bool.false_and]; exact rg_w0_1 x w h0
  rw [decide_eq_true h0, Bool.true_and]
  by_cases h1 : x.acc < 8
  rotate_left
  · rw [decide_eq_false h1]; simp only [Bool.false_and]; exact rg_w1_1 x w h0 h1
  rw [decide_eq_true h1, Bool.true_and]
  have rk := rk_2 x.side
  cases h2 : (x.side == 1) with
  | true =>
    have e : (rkN x.side != 2) = true := by
      rw [beq_iff_eq] at h2; unfold rkN; rw [if_pos h2]; rfl
    rw [e, Bool.true_and]
    by_cases h3 : 1 ≤ x.price
    rotate_left
    · rw [decide_eq_false h3]; simp only [Bool.false_and]; exact rg_w3_1 x w h0 h1 h2 h3
    rw [decide_eq_true h3]
    rw [Bool.true_and]
    by_cases h4 : x.price ≤ 1099511627776
    rotate_left
    · rw [decide_eq_false h4]; simp only [Bool.false_and]; exact rg_w4_1 x w h0 h1 h2 h3 h4
    rw [decide_eq_true h4]
    rw [Bool.true_and]
    by_cases h5 : 1 ≤ x.qty
    rotate_left
    · rw [decide_eq_false h5]; simp only [Bool.false_and]; exact rg_w5_1 x w h0 h1 h2 h3 h4 h5
    rw [decide_eq_true h5]
    rw [Bool.true_and]
    by_cases h6 : x.qty ≤ 1099511627776
    rotate_left
    · rw [decide_eq_false h6]; exact rg_w6_1 x w h0 h1 h2 h3 h4 h5 h6
    rw [decide_eq_true h6]
    exact rg_w7_1 x w h0 h1 h2 h3 h4 h5 h6
  
  | false =>
    cases h2' : (x.side == 2) with
    | true =>
      have e : (rkN x.side != 2) = true := by
        rw [beq_iff_eq] at h2'; rw [beq_eq_false_iff_ne] at h2; unfold rkN; rw [if_neg h2, if_pos h2']; rfl
      rw [e, Bool.true_and]
      by_cases h3 : 1 ≤ x.price
      rotate_left
      · rw [decide_eq_false h3]; simp only [Bool.false_and]; exact rg_w3_2 x w h0 h1 h2 h2' h3
      rw [decide_eq_true h3]
      rw [Bool.true_and]
      by_cases h4 : x.price ≤ 1099511627776
      rotate_left
      · rw [decide_eq_false h4]; simp only [Bool.false_and]; exact rg_w4_2 x w h0 h1 h2 h2' h3 h4
      rw [decide_eq_true h4]
      rw [Bool.true_and]
      by_cases h5 : 1 ≤ x.qty
      rotate_left
      · rw [decide_eq_false h5]; simp only [Bool.false_and]; exact rg_w5_2 x w h0 h1 h2 h2' h3 h4 h5
      rw [decide_eq_true h5]
      rw [Bool.true_and]
      by_cases h6 : x.qty ≤ 1099511627776
      rotate_left
      · rw [decide_eq_false h6]; exact rg_w6_2 x w h0 h1 h2 h2' h3 h4 h5 h6
      rw [decide_eq_true h6]
      exact rg_w7_2 x w h0 h1 h2 h2' h3 h4 h5 h6
    
    | false =>
      have e : (rkN x.side != 2) = false := by
        rw [beq_eq_false_iff_ne] at h2 h2'; unfold rkN; rw [if_neg h2, if_neg h2']; rfl
      rw [e]; simp only [Bool.false_and]
      exact rg_w2_1 x w h0 h1 h2 h2'
end Go.Proofs.YtgbmgdffgmablaaGreat

namespace Go.Proofs.YtgbmgdffgmablaaGreat
open Go.RowKit Go.Sort Go.Lib Go.Shelf

/-- The side, or 0 of none. -/
def clsO (x : Od) : Int := if x.side < 1 ∨ 2 < x.side then 0 else x.side
def ofO (s : Int) (x : Od) : Bool := decide (clsO x = s)
theorem fil_yes {L : List Od} {k : Nat} {s : Int} (h : k < L.length) (hp : clsO L[k]! = s) : (L.take (k + 1)).filter (ofO s) = (L.take k).filter (ofO s) ++ [L[k]!] := by
  rw [List.take_succ_eq_append_getElem h, List.filter_append, ← getElem!_pos L k h]
  congr 1
  rw [List.filter_cons_of_pos (by unfold ofO; exact decide_eq_true hp)]
  rfl
theorem fil_no {L : List Od} {k : Nat} {s : Int} (h : k < L.length) (hp : ¬ clsO L[k]! = s) : (L.take (k + 1)).filter (ofO s) = (L.take k).filter (ofO s) := by
  rw [List.take_succ_eq_append_getElem h, List.filter_append, ← getElem!_pos L k h]
  rw [List.filter_cons_of_neg (by unfold ofO; simpa using hp)]
  simp
set_option maxHeartbeats 4000000 in
set_option maxRecDepth 1000000 in
theorem rSide_c (A : Option Addr) (n c : Nat) (s : Int) (L : List Od) (w : World) (H : Ods w A n L) (hn : n ≤ 1000) :
    Calls Tryz.prog 71 #[.slice A n c, .int .i64 s] w (RowIs w (L.filter (ofO s))) := by
  obtain ⟨i0, hi0, hz0, hz1, hz2⟩ := info_parts info_ro
  have HO : Aside (Ods w A n L) := H
  have HLn := Lib.hid H.1
  clear H
  go_enter Tryz.func71, Tryz.ntmps71
  go_wp2_with fail
  go_loopg [5, 6] n (fun kx v s6 wr => ∃ k m : Nat, s6 = .int .i64 k ∧ k ≤ n ∧ n - k ≤ kx ∧ m ≤ k ∧ wr.ownsRow w.heap.size 49 6 v m (ol ((L.take k).filter (ofO s))) ∧ Hid (Below w.heap.size w wr))
  case atStart => exact ⟨0, 0, rfl, by omega, by omega, by omega, World.ownsRow_nil _ _ _ _, Below.refl _ _⟩
  case round =>
    obtain ⟨k, m, rfl, hk, hkx, hmk, hown, hd⟩ := hrel
    by_cases hlt : k < n
    · have hltI : (k : Int) < (n : Int) := by omega
      have h1 := (HO.out.below hd.out).2.2.2
      rcases h1 with h1 | ⟨b, off, rfl, _, hc⟩
      · omega
      have hx := hc k hlt
      clear hc
      have HY := Lib.hid (fun h => fil_yes (L := L) (k := k) (s := s) (by rw [HLn.out]; exact hlt) h)
      have HN := Lib.hid (fun h => fil_no (L := L) (k := k) (s := s) (by rw [HLn.out]; exact hlt) h)
      obtain ⟨x, ex⟩ : ∃ x, L[k]! = x := ⟨_, rfl⟩
      rw [ex] at hx HN HY
      clear ex
      obtain ⟨x0, x1, x2, x3, x4, x5⟩ := hx
      have hsz := hd.out.size
      by_cases h1 : x.side < 1
      · have c1 : decide (x.side < 1) = true := decide_eq_true h1
        have e : clsO x = 0 := by unfold clsO; rw [if_pos (.inl h1)]
        by_cases hp : clsO x = s
        · have hs := hp
          rw [e] at hs
          have e1 : ((0 : Int) == s) = true := by simp [hs]
          have HF := HY.out hp
          have HF := Lib.hid HF
          clear hp HY HN hs e
          go_wp2_with (at_builtin; refine wpList_append_own _ rfl _ _ 29 rfl w.heap.size 49 i0 (.agg (OC ⟨0, 0, 0, 0, 0, 0⟩)) 6 48 Tryz.underlying29 hi0 hz0 hz1 hz2 rfl (by decide) _ _ _ rfl (hown.alloc _) ⟨wr.heap.size, 0, none⟩ 1 1 (encO x) rfl rfl ?c1 ?c2 ?c3 ?c4 ?c5 ?_)
          case c1 => first | exact six_news _ x | exact fun j u h => h
          case c2 => exact enc_one x
          case c3 => unfold maxLen; omega
          case c4 => omega
          case c5 => first | omega | (simp; omega)
          intro v1 w1 hown1 hg1 _
          have hB1 : Hid (Below w.heap.size w w1) := Below.grown (hd.out.alloc hsz _) hg1 (by simp; omega) (fun k hk => (hown.lt k hk).1)
          rw [← ol_app, ← HF.out] at hown1
          clear hg1 hown hd
          go_wp2_with fail
          go_roundg (n - (k + 1))
          case measure => omega
          case rel => exact ⟨k + 1, m + 1, by go_num, by omega, by omega, by omega, hown1, hB1⟩
        · have hs := hp
          rw [e] at hs
          have e1 : ((0 : Int) == s) = false := by rw [beq_eq_false_iff_ne]; exact hs
          have HF := HN.out hp
          rw [← HF] at hown
          clear hp HY HN HF hs e
          go_wp2_with fail
          go_roundg (n - (k + 1))
          case measure => omega
          case rel => exact ⟨k + 1, m, by go_num, by omega, by omega, by omega, hown, hd⟩
      · have c1 : decide (x.side < 1) = false := decide_eq_false h1
        by_cases h2 : 2 < x.side
        · have c2 : decide (2 < x.side) = true := decide_eq_true h2
          have e : clsO x = 0 := by unfold clsO; rw [if_pos (.inr h2)]
          by_cases hp : clsO x = s
          · have hs := hp
            rw [e] at hs
            have e1 : ((0 : Int) == s) = true := by simp [hs]
            have HF := HY.out hp
            have HF := Lib.hid HF
            clear hp HY HN hs e
            go_wp2_with (at_builtin; refine wpList_append_own _ rfl _ _ 29 rfl w.heap.size 49 i0 (.agg (OC ⟨0, 0, 0, 0, 0, 0⟩)) 6 48 Tryz.underlying29 hi0 hz0 hz1 hz2 rfl (by decide) _ _ _ rfl (hown.alloc _) ⟨wr.heap.size, 0, none⟩ 1 1 (encO x) rfl rfl ?c1 ?c2 ?c3 ?c4 ?c5 ?_)
            case c1 => first | exact six_news _ x | exact fun j u h => h
            case c2 => exact enc_one x
            case c3 => unfold maxLen; omega
            case c4 => omega
            case c5 => first | omega | (simp; omega)
            intro v1 w1 hown1 hg1 _
            have hB1 : Hid (Below w.heap.size w w1) := Below.grown (hd.out.alloc hsz _) hg1 (by simp; omega) (fun k hk => (hown.lt k hk).1)
            rw [← ol_app, ← HF.out] at hown1
            clear hg1 hown hd
            go_wp2_with fail
            go_roundg (n - (k + 1))
            case measure => omega
            case rel => exact ⟨k + 1, m + 1, by go_num, by omega, by omega, by omega, hown1, hB1⟩
          · have hs := hp
            rw [e] at hs
            have e1 : ((0 : Int) == s) = false := by rw [beq_eq_false_iff_ne]; exact hs
            have HF := HN.out hp
            rw [← HF] at hown
            clear hp HY HN HF hs e
            go_wp2_with fail
            go_roundg (n - (k + 1))
            case measure => omega
            case rel => exact ⟨k + 1, m, by go_num, by omega, by omega, by omega, hown, hd⟩
        · have c2 : decide (2 < x.side) = false := decide_eq_false h2
          have e : clsO x = x.side := by unfold clsO; rw [if_neg (by omega)]
          by_cases hp : clsO x = s
          · have hs := hp
            rw [e] at hs
            have e1 : (x.side == s) = true := by simp [hs]
            have HF := HY.out hp
            have HF := Lib.hid HF
            clear hp HY HN hs e
            go_wp2_with (at_builtin; refine wpList_append_own _ rfl _ _ 29 rfl w.heap.size 49 i0 (.agg (OC ⟨0, 0, 0, 0, 0, 0⟩)) 6 48 Tryz.underlying29 hi0 hz0 hz1 hz2 rfl (by decide) _ _ _ rfl (hown.alloc _) ⟨wr.heap.size, 0, none⟩ 1 1 (encO x) rfl rfl ?c1 ?c2 ?c3 ?c4 ?c5 ?_)
            case c1 => first | exact six_news _ x | exact fun j u h => h
            case c2 => exact enc_one x
            case c3 => unfold maxLen; omega
            case c4 => omega
            case c5 => first | omega | (simp; omega)
            intro v1 w1 hown1 hg1 _
            have hB1 : Hid (Below w.heap.size w w1) := Below.grown (hd.out.alloc hsz _) hg1 (by simp; omega) (fun k hk => (hown.lt k hk).1)
            rw [← ol_app, ← HF.out] at hown1
            clear hg1 hown hd
            go_wp2_with fail
            go_roundg (n - (k + 1))
            case measure => omega
            case rel => exact ⟨k + 1, m + 1, by go_num, by omega, by omega, by omega, hown1, hB1⟩
          · have hs := hp
            rw [e] at hs
            have e1 : (x.side == s) = false := by rw [beq_eq_false_iff_ne]; exact hs
            have HF := HN.out hp
            rw [← HF] at hown
            clear hp HY HN HF hs e
            go_wp2_with fail
            go_roundg (n - (k + 1))
            case measure => omega
            case rel => exact ⟨k + 1, m, by go_num, by omega, by omega, by omega, hown, hd⟩
    · have hltI : ¬ (k : Int) < (n : Int) := by omega
      obtain rfl : k = n := by omega
      rw [List.take_of_length_le (by rw [HLn.out]; exact Nat.le_refl _)] at hown
      obtain ⟨A', c', rfl, hc, ht⟩ := own_ods hown (by omega) (fun x hx => (HO.out.below hd.out).2.2.1 x ((List.mem_filter.1 hx).1))
      have HF : Hid (Below w.heap.size w wr ∧ Ods wr A' m (L.filter (ofO s)) ∧ CapOk A' m c') := ⟨hd.out, ht, hc⟩
      clear hown ht hd
      go_wp2_with fail
      go_ret
      exact ⟨A', m, c', rfl, HF.out⟩
end Go.Proofs.YtgbmgdffgmablaaGreat

namespace Go.Proofs.YtgbmgdffgmablaaGreat
open Go.RowKit Go.Sort Go.Lib Go.Shelf

/-- Of one side, in the order of their places. -/
structure SelD (D : List (Od × Nat)) : Prop where
  inc : D.Pairwise (fun x y => x.2 < y.2)
  one : ∀ x ∈ D, ∀ y ∈ D, x.1.side = y.1.side
theorem lt_ahd {x y : Od} (h : x.side = y.side) : ltO x y = ahdO x y := by unfold ltO; rw [h]; simp
/-- What is left, and what is out. -/
structure SelI (D0 D O : List (Od × Nat)) : Prop where
  sel : SelD D
  perm : (O ++ D).Perm D0
  srt : O.Pairwise (fun x y => ltR ltO y x = false)
  aft : ∀ o ∈ O, ∀ d ∈ D, ltR ltO d o = false
def MinTo (D : List (Od × Nat)) (i at' : Nat) : Prop := ∀ j, j < i → ltR ltO D[j]! D[at']! = false
theorem min_one (D : List (Od × Nat)) : MinTo D 1 0 := fun j hj => by
  obtain rfl : j = 0 := by omega
  exact (swo_ltR swo_ltO).irrefl _
theorem mem_at {D : List (Od × Nat)} {i : Nat} (h : i < D.length) : D[i]! ∈ D := by rw [getElem!_pos D i h]; exact List.getElem_mem _
theorem min_yes {D : List (Od × Nat)} {i k : Nat} (hS : SelD D) (hi : i < D.length) (hk : k < i) (h : MinTo D i k) (ha : ahdO (D[i]!).1 (D[k]!).1 = true) : MinTo D (i + 1) i := fun j hj => by
  have hR := swo_ltR swo_ltO
  by_cases e : j = i
  · rw [e]; exact hR.irrefl _
  · have h1 : ltR ltO D[i]! D[k]! = true := ltR_iff.2 (.inl (by rw [lt_ahd (hS.one _ (mem_at hi) _ (mem_at (by omega)))]; exact ha))
    cases e2 : ltR ltO D[j]! D[i]! with
    | false => rfl
    | true => have := hR.trans _ _ _ e2 h1; rw [h j (by omega)] at this; cases this
theorem min_no {D : List (Od × Nat)} {i k : Nat} (hS : SelD D) (hi : i < D.length) (hk : k < i) (h : MinTo D i k) (ha : ahdO (D[i]!).1 (D[k]!).1 = false) : MinTo D (i + 1) k := fun j hj => by
  by_cases e : j = i
  · rw [e, ltR_no, lt_ahd (hS.one _ (mem_at hi) _ (mem_at (by omega)))]
    refine ⟨ha, .inr ?_⟩
    have := List.pairwise_iff_getElem.1 hS.inc k i (by omega) hi hk
    rw [getElem!_pos D k (by omega), getElem!_pos D i hi]
    omega
  · exact h j (by omega)
theorem SelI.step {D0 D O : List (Od × Nat)} {k : Nat} (h : SelI D0 D O) (hk : k < D.length) (hm : MinTo D D.length k) : SelI D0 (D.take k ++ D.drop (k + 1)) (O ++ [D[k]!]) := by
  have hsub : (D.take k ++ D.drop (k + 1)).Sublist D := by
    rw [← List.eraseIdx_eq_take_drop_succ]; exact List.eraseIdx_sublist _ _
  have hmem : ∀ d ∈ D.take k ++ D.drop (k + 1), d ∈ D := fun d hd => hsub.subset hd
  have hmin : ∀ d ∈ D, ltR ltO d D[k]! = false := fun d hd => by
    obtain ⟨j, hj, rfl⟩ := List.getElem_of_mem hd
    have := hm j hj
    rw [getElem!_pos D j hj] at this
    exact this
  refine ⟨⟨h.sel.inc.sublist hsub, fun x hx y hy => h.sel.one x (hmem x hx) y (hmem y hy)⟩, ?_, ?_, ?_⟩
  · refine List.Perm.trans ?_ h.perm
    rw [List.append_assoc]
    refine List.Perm.append_left _ ?_
    have e : D = D.take k ++ D[k]! :: D.drop (k + 1) := by
      rw [getElem!_pos D k hk, List.getElem_cons_drop, List.take_append_drop]
    have : ([D[k]!] ++ (D.take k ++ D.drop (k + 1))).Perm (D.take k ++ D[k]! :: D.drop (k + 1)) := by
      show (D[k]! :: (D.take k ++ D.drop (k + 1))).Perm _
      exact List.perm_middle.symm
    rw [← e] at this
    exact this
  · rw [List.pairwise_append]
    refine ⟨h.srt, List.pairwise_singleton _ _, fun a ha b hb => ?_⟩
    rw [List.mem_singleton.1 hb]
    exact h.aft a ha _ (mem_at hk)
  · intro o ho d hd
    rcases List.mem_append.1 ho with ho | ho
    · exact h.aft o ho d (hmem d hd)
    · rw [List.mem_singleton.1 ho]
      exact hmin d (hmem d hd)
theorem SelI.start {D : List (Od × Nat)} (h : SelD D) : SelI D D [] := ⟨h, List.Perm.refl _, List.Pairwise.nil, fun _ h => by cases h⟩

theorem Ods.keep {w w' : World} {a : Option Addr} {len : Nat} {its : List Od} (h : Ods w a len its) (hs : w.heap.size ≤ w'.heap.size) (hk : ∀ b off, a = some ⟨b, off, none⟩ → b < w.heap.size → w'.heap[b]? = w.heap[b]?) : Ods w' a len its := by
  obtain ⟨h1, hle, h2, h3⟩ := h
  refine ⟨h1, hle, h2, ?_⟩
  rcases h3 with h0 | ⟨b, off, rfl, hlt, hc⟩
  · exact .inl h0
  · refine .inr ⟨b, off, rfl, Nat.lt_of_lt_of_le hlt hs, fun i hi => ?_⟩
    have hb := hk b off rfl hlt
    have := hc i hi
    unfold Od.at at this ⊢
    simpa only [World.cell?_of_block (w := w) (w' := w') (a := ⟨b, _, none⟩) hb] using this
/-- The cells of some that follow one another. -/
theorem Ods.part {w : World} {b off len i m : Nat} {its : List Od} (h : Ods w (some ⟨b, off, none⟩) len its) (hm : i + m ≤ len) : ∀ j u, (ol ((its.drop i).take m))[j]? = some u → w.cell? ((⟨b, off + i * 6, none⟩ : Addr).add j) = some u := by
  intro j u hj
  obtain ⟨h1, _, _, h3⟩ := h
  have hl : ((its.drop i).take m).length = m := by rw [List.length_take, List.length_drop]; omega
  have hj6 : j < m * 6 := by
    have := (List.getElem?_eq_some_iff.1 hj).1
    rw [ol_len, hl] at this
    exact this
  rcases h3 with h0 | ⟨b', off', e, _, hc⟩
  · omega
  injection e with e
  injection e with e1 e2
  subst e1; subst e2
  have hq : j / 6 < m := by omega
  have ej : j = j / 6 * 6 + j % 6 := by omega
  have hx := hc (i + j / 6) (by omega)
  have hg := ol_get ((its.drop i).take m) (j / 6) (j % 6) (by rw [hl]; exact hq) (by omega)
  rw [← ej, hj] at hg
  have e3 : ((its.drop i).take m)[j / 6]! = its[i + j / 6]! := by
    rw [getElem!_pos _ _ (by rw [hl]; exact hq), getElem!_pos its _ (by omega)]
    simp
  rw [e3] at hg
  have := at_cell (c := j % 6) (u := u) hx hg.symm
  rw [addr_add]
  show w.cell? ⟨b, off + i * 6 + j, none⟩ = _
  rw [← this]
  congr 2
  omega
end Go.Proofs.YtgbmgdffgmablaaGreat

namespace Go.Proofs.YtgbmgdffgmablaaGreat
open Go.RowKit Go.Sort Go.Lib Go.Shelf

theorem mapG (D : List (Od × Nat)) (i : Nat) (h : i < D.length) : (D.map Prod.fst)[i]! = (D[i]!).1 := by
  rw [getElem!_pos _ i (by rw [List.length_map]; exact h), getElem!_pos D i h, List.getElem_map]
theorem rAheadG (x y : Od) (W : World) : Calls Tryz.prog 83 #[.agg (OC x), .agg (OC y)] W fun e w' => e = .returned (.bool (ahdO x y)) ∧ ∃ q os, w' = Go.Sort.grow (W.drewN q) os :=
  (rAhead_c x y W).mono fun _ _ h => ⟨h.1, h.2.grow⟩
theorem Ods.cellsAt {w : World} {b off len i : Nat} {its : List Od} (h : Ods w (some ⟨b, off, none⟩) len its) (hi : i < len) : (its[i]!).at w b (off + i * 6) := by
  rcases h.2.2.2 with h0 | ⟨b', off', e, _, hc⟩
  · omega
  · injection e with e
    injection e with e1 e2
    subst e1; subst e2
    exact hc i hi
/-- What is sorted, and comes back in a row of its own. -/
def SelIs (w : World) (D0 : List (Od × Nat)) (e : Ending) (w' : World) : Prop := ∃ O : List (Od × Nat), O.Perm D0 ∧ O.Pairwise (fun x y => ltR ltO y x = false) ∧ RowIs w (O.map Prod.fst) e w'

set_option maxHeartbeats 4000000 in
set_option maxRecDepth 1000000 in
theorem rSorted1_c (A : Option Addr) (n c : Nat) (D0 : List (Od × Nat)) (w : World) (H : Ods w A n (D0.map Prod.fst)) (hn : n ≤ 1000) (hnc : n ≤ c) (hD : SelD D0) :
    Calls Tryz.prog 70 #[.slice A n c] w (SelIs w D0) := by
  have mixed : Tryz.prog.follows .mixedOrders = true := by kernel_rfl
  obtain ⟨i0, hi0, hz0, hz1, hz2⟩ := info_parts info_ro
  have HA := Lib.hid rAheadG
  have HO : Aside (Ods w A n (D0.map Prod.fst)) := H
  have HOk := Lib.hid H.2.2.1
  have HAw : Hid (∀ b off, A = some ⟨b, off, none⟩ → n = 0 ∨ b < w.heap.size) := Lib.hid (fun b off e => by
    rcases H.2.2.2 with h | ⟨b', off', e', h, _⟩
    · exact .inl h
    · rw [e] at e'; injection e' with e'; injection e' with e1 e2; subst e1; exact .inr h)
  have HI0 : Hid (SelI D0 D0 []) := SelI.start hD
  clear H hD
  go_enter Tryz.func70, Tryz.ntmps70
  go_wp2_with fail
  go_loopg [0, 3] n (fun kx s0 v wr => ∃ (A' : Option Addr) (m c' q : Nat) (D O : List (Od × Nat)), s0 = .slice A' m c' ∧ m ≤ kx ∧ m ≤ c' ∧ q + m = n ∧ Hid (SelI D0 D O) ∧ Aside (Ods wr A' m (D.map Prod.fst)) ∧ wr.ownsRow w.heap.size 49 6 v q (ol (O.map Prod.fst)) ∧ Hid (Below w.heap.size w wr) ∧
      Hid (m = 0 ∨ ∀ k b off, v.ownBlock = some k → A' = some ⟨b, off, none⟩ → b ≠ k))
  case atStart =>
    exact ⟨A, n, c, 0, D0, [], rfl, Nat.le_refl _, hnc, by omega, HI0, HO, World.ownsRow_nil _ _ _ _, Below.refl _ _, Lib.hid (.inr (fun k b off e => by cases e))⟩
  case round =>
  clear HO HI0 HAw
  obtain ⟨A', m, c', q, D, O, rfl, hmk, hmc, hqm, HI, HO, hown, hd, HB⟩ := hrel
  by_cases h0 : m = 0
  · have hz : ¬ (m : Int) > 0 := by omega
    have hl : D = [] := by
      have := HO.out.1
      rw [List.length_map] at this
      exact List.length_eq_zero_iff.1 (by omega)
    obtain rfl : q = n := by omega
    obtain ⟨A2, c2, rfl, hc2, ht⟩ := own_ods hown hn (fun x hx => by
      obtain ⟨d, hdm, rfl⟩ := List.mem_map.1 hx
      have hp := HI.out.perm
      rw [hl, List.append_nil] at hp
      exact HOk.out _ (List.mem_map.2 ⟨d, hp.mem_iff.1 hdm, rfl⟩))
    have HF : Hid (O.Perm D0 ∧ O.Pairwise (fun x y => ltR ltO y x = false) ∧ Below w.heap.size w wr ∧ Ods wr A2 q (O.map Prod.fst) ∧ CapOk A2 q c2) := by
      have hp := HI.out.perm
      rw [hl, List.append_nil] at hp
      exact ⟨hp, HI.out.srt, hd.out, ht, hc2⟩
    clear hown hd HI HO HB ht hl
    go_wp2_with fail
    go_ret
    exact ⟨O, HF.out.1, HF.out.2.1, A2, q, c2, rfl, HF.out.2.2⟩
  have hz : (m : Int) > 0 := by omega
  have h1 := HO.out.2.2.2
  rcases h1 with h1 | ⟨b, off, rfl, hbw, _⟩
  · omega
  have HDl : Hid (D.length = m) := by have := HO.out.1; rw [List.length_map] at this; exact this
  have HBn := Lib.hid (fun k e => (HB.out.resolve_left h0) k b off e rfl)
  clear HB h0
  go_wp2_with fail
  obtain ⟨wo, hwo⟩ : ∃ W, W = wr := ⟨_, rfl⟩
  subst hwo
  rw [show decide (0 < m) = true from decide_eq_true (by omega)]
  go_loopg [4, 5] m (fun kx s4 s5 wx => ∃ (k i : Nat), s4 = .int .i64 k ∧ s5 = .int .i64 i ∧ k < i ∧ i ≤ m ∧ m - i ≤ kx ∧ Hid (MinTo D i k) ∧ Hid (Gw wo wx))
  case atStart => exact ⟨0, 1, rfl, rfl, by omega, by omega, by omega, min_one D, Gw.refl wo⟩
  case round =>
  obtain ⟨k, i, rfl, rfl, hki, him, hkx, HM, HG⟩ := hrel
  by_cases hlt : i < m
  · have hltz : (i : Int) < (m : Int) := by omega
    have hkz : (k : Int) < (m : Int) := by omega
    have HOx := HO.out.below (HG.out.b)
    have hx := HOx.cellsAt hlt
    have hy := HOx.cellsAt (show k < m by omega)
    rw [mapG D i (by rw [HDl.out]; exact hlt)] at hx
    rw [mapG D k (by rw [HDl.out]; omega)] at hy
    obtain ⟨x, ex⟩ : ∃ x, (D[i]!).1 = x := ⟨_, rfl⟩
    obtain ⟨y, ey⟩ : ∃ x, (D[k]!).1 = x := ⟨_, rfl⟩
    rw [ex] at hx
    rw [ey] at hy
    have EX := Lib.hid ex
    have EY := Lib.hid ey
    clear ex ey HOx
    obtain ⟨x0, x1, x2, x3, x4, x5⟩ := hx
    obtain ⟨y0, y1, y2, y3, y4, y5⟩ := hy
    have hbx : b < wr.heap.size := Nat.lt_of_lt_of_le hbw HG.out.b.size
    have X0 := fun n os => cell_grown (a := ⟨b, _, none⟩) hbx x0 n os
    have Y0 := fun n os => cell_grown (a := ⟨b, _, none⟩) hbx y0 n os
    have X1 := fun n os => cell_grown (a := ⟨b, _, none⟩) hbx x1 n os
    have Y1 := fun n os => cell_grown (a := ⟨b, _, none⟩) hbx y1 n os
    have X2 := fun n os => cell_grown (a := ⟨b, _, none⟩) hbx x2 n os
    have Y2 := fun n os => cell_grown (a := ⟨b, _, none⟩) hbx y2 n os
    have X3 := fun n os => cell_grown (a := ⟨b, _, none⟩) hbx x3 n os
    have Y3 := fun n os => cell_grown (a := ⟨b, _, none⟩) hbx y3 n os
    have X4 := fun n os => cell_grown (a := ⟨b, _, none⟩) hbx x4 n os
    have Y4 := fun n os => cell_grown (a := ⟨b, _, none⟩) hbx y4 n os
    have X5 := fun n os => cell_grown (a := ⟨b, _, none⟩) hbx x5 n os
    have Y5 := fun n os => cell_grown (a := ⟨b, _, none⟩) hbx y5 n os
    clear x0 x1 x2 x3 x4 x5 y0 y1 y2 y3 y4 y5
    cases ha : ahdO x y with
    | true =>
      have HN : Hid (MinTo D (i + 1) i) := min_yes HI.out.sel (by rw [HDl.out]; exact hlt) hki HM.out (by rw [EX.out, EY.out]; exact ha)
      have hcg := fun W => HA.out x y W
      rw [ha] at hcg
      clear ha
      go_wp2_with fail
      go_quiet_grown ((go_at_call 83; with_reducible refine Calls.grown_of (hcg _)))
      have G2 : Hid (Gw wo (grow (wr.drewN nq) osq)) := HG.out.trans (gw_grow _ _ _)
      clear hcg X0 X1 X2 X3 X4 X5 Y0 Y1 Y2 Y3 Y4 Y5 HG hbx
      generalize grow (wr.drewN nq) osq = w2 at G2 ⊢
      go_wp2_with fail
      go_roundg (m - (i + 1))
      case measure => omega
      case rel => exact ⟨i, i + 1, rfl, by go_num, by omega, by omega, by omega, HN, G2⟩
    | false =>
      have HN : Hid (MinTo D (i + 1) k) := min_no HI.out.sel (by rw [HDl.out]; exact hlt) hki HM.out (by rw [EX.out, EY.out]; exact ha)
      have hcg := fun W => HA.out x y W
      rw [ha] at hcg
      clear ha
      go_wp2_with fail
      go_quiet_grown ((go_at_call 83; with_reducible refine Calls.grown_of (hcg _)))
      have G2 : Hid (Gw wo (grow (wr.drewN nq) osq)) := HG.out.trans (gw_grow _ _ _)
      clear hcg X0 X1 X2 X3 X4 X5 Y0 Y1 Y2 Y3 Y4 Y5 HG hbx
      generalize grow (wr.drewN nq) osq = w2 at G2 ⊢
      go_wp2_with fail
      go_roundg (m - (i + 1))
      case measure => omega
      case rel => exact ⟨k, i + 1, rfl, by go_num, by omega, by omega, by omega, HN, G2⟩
  have hltz : ¬ (i : Int) < (m : Int) := by omega
  obtain rfl : i = m := by omega
  have hs1 := HG.out.b.size
  have hown2 := own_fr (S := fun _ => False) hown (Fr.of_below HG.out.b) (fun _ _ h => h)
  have hd2 : Hid (Below w.heap.size w wr) := hd.out.trans (HG.out.b.mono hd.out.size)
  have HO2 : Aside (Ods wr (some ⟨b, off, none⟩) i (D.map Prod.fst)) := HO.out.below HG.out.b
  have hx := HO2.out.cellsAt hki
  rw [mapG D k (by rw [HDl.out]; exact hki)] at hx
  obtain ⟨x, ex⟩ : ∃ x, (D[k]!).1 = x := ⟨_, rfl⟩
  rw [ex] at hx
  have HIn : Hid (SelI D0 (D.take k ++ D.drop (k + 1)) (O ++ [D[k]!]) ∧ (D[k]!).1 = x) := ⟨HI.out.step (by rw [HDl.out]; exact hki) (by rw [HDl.out]; exact HM.out), ex⟩
  have hbx : b < wr.heap.size := by omega
  clear ex hown hd HO HI HM HG hs1
  obtain ⟨x0, x1, x2, x3, x4, x5⟩ := hx
  have hsz := hd2.out.size
  go_wp2_with (at_builtin; refine wpList_append_own _ rfl _ _ 29 rfl w.heap.size 49 i0 (.agg (OC ⟨0, 0, 0, 0, 0, 0⟩)) 6 48 Tryz.underlying29 hi0 hz0 hz1 hz2 rfl (by decide) _ _ _ rfl (hown2.alloc _) ⟨wr.heap.size, 0, none⟩ 1 1 (encO x) rfl rfl ?c1 ?c2 ?c3 ?c4 ?c5 ?_)
  case c1 => first | exact six_news _ x | exact fun j u h => h
  case c2 => exact enc_one x
  case c3 => unfold maxLen; omega
  case c4 => omega
  case c5 => first | omega | (simp; omega)
  intro v1 w1 hown1 hg1 _
  have hB1 : Hid (Below w.heap.size w w1) := Below.grown (hd2.out.alloc hsz _) hg1 (by simp; omega) (fun k hk => (hown2.lt k hk).1)
  have hs1 := hg1.size
  have HO3 : Aside (Ods w1 (some ⟨b, off, none⟩) i (D.map Prod.fst)) := (HO2.out.below ((Below.refl wr.heap.size wr).alloc (Nat.le_refl _) _)).keep hg1.size (fun b' off' e hb' => by
    injection e with e
    injection e with e1 e2
    subst e1
    exact hg1.block _ hb' (fun e => HBn.out b e.symm rfl))
  have hB1s := hB1.out.size
  have eD : Hid (ol ((O ++ [D[k]!]).map Prod.fst) = ol (O.map Prod.fst) ++ encO x) := by
    show _ = _
    rw [List.map_append, List.map_cons, List.map_nil, HIn.out.2, ol_app]
  rw [← eD.out] at hown1
  have HIs : Hid (SelI D0 (D.take k ++ D.drop (k + 1)) (O ++ [D[k]!])) := HIn.out.1
  generalize O ++ [D[k]!] = O' at hown1 HIs eD
  have hq1 : k ≤ i := by omega
  have hp1 := Lib.hid (Ods.part (i := 0) (m := k) HO3.out (by omega))
  have hl1 : Hid ((ol (((D.map Prod.fst).drop 0).take k)).length = k * 6) := by
    show _ = _
    rw [ol_len, List.length_take, List.length_drop, List.length_map, HDl.out]
    congr 1
    omega
  clear x0 x1 x2 x3 x4 x5 HIn HO2 HBn hg1 hown2 hd2 hsz hbx eD
  have hkz : (k : Int) ≤ (c' : Int) := by omega
  go_wp2_with (at_builtin; refine wpList_append_own _ rfl _ _ 29 rfl w1.heap.size 49 i0 (.agg (OC ⟨0, 0, 0, 0, 0, 0⟩)) 6 48 Tryz.underlying29 hi0 hz0 hz1 hz2 rfl (by decide) (.slice none 0 0) 0 [] rfl (World.ownsRow_nil _ _ _ _) ⟨b, off, none⟩ k _ (ol (((D.map Prod.fst).drop 0).take k)) rfl hl1.out ?c1 ?c2 ?c3 ?c4 ?c5 ?_)
  case c1 => simpa using hp1.out
  case c2 => exact ol_one _
  case c3 => unfold maxLen; omega
  case c4 => omega
  case c5 => exact Nat.le_refl _
  intro v2 w2 hown2 hg2 _
  have B12 : Hid (Below w1.heap.size w1 w2) := Below.grown (Below.refl _ _) hg2 (Nat.le_refl _) (by intro k hk; cases hk)
  have HO4 : Aside (Ods w2 (some ⟨b, off, none⟩) i (D.map Prod.fst)) := HO3.out.below B12.out
  have hp2 := Lib.hid (Ods.part (i := k + 1) (m := i - (k + 1)) HO4.out (by omega))
  have hl2 : Hid ((ol (((D.map Prod.fst).drop (k + 1)).take (i - (k + 1)))).length = (i - (k + 1)) * 6) := by
    show _ = _
    rw [ol_len, List.length_take, List.length_drop, List.length_map, HDl.out]
    congr 1
    omega
  have hs2 := B12.out.size
  clear hg2 HO3 hp1 hl1
  have zk1 : (k : Int) + 1 ≤ (i : Int) := by omega
  have zk2 : (i : Int) - ((k : Int) + 1) = ((i - (k + 1) : Nat) : Int) := by omega
  by_cases hcap : c' = k + 1
  · subst hcap
    go_wp2_with (at_builtin; refine wpList_append_own _ rfl _ _ 29 rfl w1.heap.size 49 i0 (.agg (OC ⟨0, 0, 0, 0, 0, 0⟩)) 6 48 Tryz.underlying29 hi0 hz0 hz1 hz2 rfl (by decide) _ _ _ rfl hown2 ⟨b, off, none⟩ _ _ [] rfl ?c0 ?c1 ?c2 ?c3 ?c4 ?c5 ?_)
    case c0 =>
      show 0 = _
      omega
    case c1 => intro j u hu; cases hu
    case c2 => intro u hu; cases hu
    case c3 => unfold maxLen; omega
    case c4 => omega
    case c5 => exact hs2
    intro v3 w3 hown3 hg3 _
    have B13 : Hid (Below w1.heap.size w1 w3) := Below.grown B12.out hg3 hs2 (fun k hk => (hown2.lt k hk).1)
    have hownO := own_fr (S := fun _ => False) hown1 (Fr.of_below B13.out) (fun _ _ h => h)
    have hown4 : w3.ownsRow w1.heap.size 49 6 v3 (i - 1) (ol ((D.take k ++ D.drop (k + 1)).map Prod.fst)) := by
      have h1 : D.drop (k + 1) = [] := List.drop_eq_nil_of_le (by rw [HDl.out]; omega)
      have h2 : i - (k + 1) = 0 := by omega
      have h3 : i - 1 = k := by omega
      rw [h1, h3, List.append_nil, List.map_take]
      simpa [h2] using hown3
    have B3 : Hid (Below w.heap.size w w3) := hB1.out.trans (B13.out.mono hB1s)
    obtain ⟨A3, c3, rfl, hc3, ht3⟩ := own_ods hown4 (by omega) (fun x hx => by
      obtain ⟨d, hdm, rfl⟩ := List.mem_map.1 hx
      exact HOk.out _ (List.mem_map.2 ⟨d, HIs.out.perm.mem_iff.1 (List.mem_append.2 (.inr hdm)), rfl⟩))
    have HBx : Hid (i - 1 = 0 ∨ ∀ k b off, v1.ownBlock = some k → A3 = some ⟨b, off, none⟩ → b ≠ k) := Lib.hid (.inr (fun kk bb oo e1 e2 => by
      subst e2
      have := (hown1.lt kk e1).2
      have := (hown4.lt bb rfl).1
      omega))
    clear hown4 hown3 hg3 hown2 B12 B13 hp2 hl2 HO4 hown1 hB1 hB1s
    go_wp2_with fail
    go_roundg (i - 1)
    case measure => omega
    case rel => exact ⟨A3, i - 1, c3, q + 1, _, O', rfl, by omega, hc3.1, by omega, HIs, ht3, hownO, B3, HBx⟩
  · have hcap2 : ¬ k + 1 = c' := by omega
    go_wp2_with (at_builtin; refine wpList_append_own _ rfl _ _ 29 rfl w1.heap.size 49 i0 (.agg (OC ⟨0, 0, 0, 0, 0, 0⟩)) 6 48 Tryz.underlying29 hi0 hz0 hz1 hz2 rfl (by decide) _ _ _ rfl hown2 ⟨b, off + (k + 1) * 6, none⟩ (i - (k + 1)) _ (ol (((D.map Prod.fst).drop (k + 1)).take (i - (k + 1)))) rfl hl2.out ?c1 ?c2 ?c3 ?c4 ?c5 ?_)
    case c1 => exact hp2.out
    case c2 => exact ol_one _
    case c3 => unfold maxLen; omega
    case c4 => omega
    case c5 => exact hs2
    intro v3 w3 hown3 hg3 _
    have B13 : Hid (Below w1.heap.size w1 w3) := Below.grown B12.out hg3 hs2 (fun k hk => (hown2.lt k hk).1)
    have hownO := own_fr (S := fun _ => False) hown1 (Fr.of_below B13.out) (fun _ _ h => h)
    have hown4 : w3.ownsRow w1.heap.size 49 6 v3 (i - 1) (ol ((D.take k ++ D.drop (k + 1)).map Prod.fst)) := by
      have en : i - 1 = k + (i - (k + 1)) := by omega
      have eL : ol ((D.take k ++ D.drop (k + 1)).map Prod.fst) = ol ((D.map Prod.fst).take k) ++ ol (((D.map Prod.fst).drop (k + 1)).take (i - (k + 1))) := by
        rw [List.map_append, List.map_take, List.map_drop, List.take_of_length_le (i := i - (k + 1)) (by rw [List.length_drop, List.length_map, HDl.out]; exact Nat.le_refl _)]
        unfold ol
        rw [List.flatMap_append]
      rw [en, eL]
      simpa using hown3
    have B3 : Hid (Below w.heap.size w w3) := hB1.out.trans (B13.out.mono hB1s)
    obtain ⟨A3, c3, rfl, hc3, ht3⟩ := own_ods hown4 (by omega) (fun x hx => by
      obtain ⟨d, hdm, rfl⟩ := List.mem_map.1 hx
      exact HOk.out _ (List.mem_map.2 ⟨d, HIs.out.perm.mem_iff.1 (List.mem_append.2 (.inr hdm)), rfl⟩))
    have HBx : Hid (i - 1 = 0 ∨ ∀ k b off, v1.ownBlock = some k → A3 = some ⟨b, off, none⟩ → b ≠ k) := Lib.hid (.inr (fun kk bb oo e1 e2 => by
      subst e2
      have := (hown1.lt kk e1).2
      have := (hown4.lt bb rfl).1
      omega))
    clear hown4 hown3 hg3 hown2 B12 B13 hp2 hl2 HO4 hown1 hB1 hB1s
    go_wp2_with fail
    go_roundg (i - 1)
    case measure => omega
    case rel => exact ⟨A3, i - 1, c3, q + 1, _, O', rfl, by omega, hc3.1, by omega, HIs, ht3, hownO, B3, HBx⟩
end Go.Proofs.YtgbmgdffgmablaaGreat

namespace Go.Proofs.YtgbmgdffgmablaaGreat
open Go.RowKit Go.Sort Go.Lib Go.Shelf

def fz (s : Int) (L : List Od) : List (Od × Nat) := L.zipIdx.filter (fun d => ofO s d.1)
theorem fz_fst (s : Int) (L : List Od) : (fz s L).map Prod.fst = L.filter (ofO s) := by
  unfold fz
  have h : L.filter (ofO s) = (L.zipIdx.map Prod.fst).filter (ofO s) := by rw [List.zipIdx_map_fst]
  rw [h, List.filter_map]
  rfl
theorem zip_inc (L : List Od) : L.zipIdx.Pairwise (fun x y => x.2 < y.2) := by
  rw [List.pairwise_iff_getElem]
  intro i j hi hj hij
  rw [List.getElem_zipIdx, List.getElem_zipIdx]
  simpa using hij
theorem cls_side {s : Int} {x : Od} (hs : s = 1 ∨ s = 2) (h : ofO s x = true) : x.side = s := by
  unfold ofO clsO at h
  have := of_decide_eq_true h
  split at this <;> omega
theorem cls_0 {x : Od} (h : ofO 0 x = true) : ¬ x.side = 1 ∧ ¬ x.side = 2 := by
  unfold ofO clsO at h
  have := of_decide_eq_true h
  split at this <;> omega
theorem cls_three (x : Od) : (!ofO 1 x && !ofO 2 x) = ofO 0 x := by
  have h3 : clsO x = 0 ∨ clsO x = 1 ∨ clsO x = 2 := by unfold clsO; split <;> omega
  unfold ofO
  rcases h3 with h | h | h <;> rw [h] <;> rfl
theorem fz_sel {s : Int} (hs : s = 1 ∨ s = 2) (L : List Od) : SelD (fz s L) :=
  ⟨(zip_inc L).sublist List.filter_sublist, fun x hx y hy => by
    rw [cls_side hs (List.mem_filter.1 hx).2, cls_side hs (List.mem_filter.1 hy).2]⟩
theorem sortO_sides {L : List Od} {O1 O2 : List (Od × Nat)} (h1 : O1.Perm (fz 1 L)) (s1 : O1.Pairwise (fun x y => ltR ltO y x = false)) (h2 : O2.Perm (fz 2 L)) (s2 : O2.Pairwise (fun x y => ltR ltO y x = false)) :
    sortO L = (O1.map Prod.fst ++ O2.map Prod.fst) ++ L.filter (ofO 0) := by
  rw [← fz_fst, ← List.map_append, ← List.map_append]
  have hm1 : ∀ x ∈ O1, x.1.side = 1 := fun x hx => cls_side (.inl rfl) (List.mem_filter.1 (h1.mem_iff.1 hx)).2
  have hm2 : ∀ x ∈ O2, x.1.side = 2 := fun x hx => cls_side (.inr rfl) (List.mem_filter.1 (h2.mem_iff.1 hx)).2
  have hm0 : ∀ x ∈ fz 0 L, ¬ x.1.side = 1 ∧ ¬ x.1.side = 2 := fun x hx => cls_0 (List.mem_filter.1 hx).2
  refine sortO_eq ?_ ?_
  · refine ((h1.append h2).append_right _).trans ?_
    have p1 := List.filter_append_perm (fun d : Od × Nat => ofO 1 d.1) L.zipIdx
    have p2 := List.filter_append_perm (fun d : Od × Nat => ofO 2 d.1) (L.zipIdx.filter (fun d => !ofO 1 d.1))
    rw [List.filter_filter, List.filter_filter] at p2
    have e2 : L.zipIdx.filter (fun a => ofO 2 a.1 && !ofO 1 a.1) = fz 2 L := by
      unfold fz
      refine List.filter_congr fun d _ => ?_
      cases h : ofO 2 d.1 with
      | false => rfl
      | true =>
        cases h' : ofO 1 d.1 with
        | false => rfl
        | true => have := cls_side (.inr rfl) h; have := cls_side (.inl rfl) h'; omega
    have e0 : L.zipIdx.filter (fun a => !ofO 2 a.1 && !ofO 1 a.1) = fz 0 L := by
      unfold fz
      refine List.filter_congr fun d _ => ?_
      rw [Bool.and_comm]
      exact cls_three d.1
    rw [e2, e0] at p2
    rw [List.append_assoc]
    exact (List.Perm.append_left _ p2).trans p1
  · have cross : ∀ x y : Od × Nat, rkN x.1.side < rkN y.1.side → ltR ltO y x = false := fun x y h => by
      rw [ltR_no]
      have hl : ltO x.1 y.1 = true := by rw [ltO_iff]; exact .inl h
      exact ⟨(ltO_no _ _).2 (by unfold Lex; omega), .inl hl⟩
    have r1 : rkN 1 = 0 := rfl
    have r2 : rkN 2 = 1 := rfl
    have r0 : ∀ s : Int, ¬ s = 1 → ¬ s = 2 → rkN s = 2 := fun s a b => by unfold rkN; simp [a, b]
    rw [List.pairwise_append, List.pairwise_append]
    refine ⟨⟨s1, s2, fun x hx y hy => cross x y (by rw [hm1 x hx, hm2 y hy, r1, r2]; decide)⟩, ?_, fun x hx y hy => ?_⟩
    · have hp : (fz 0 L).Pairwise (fun x y => x.2 < y.2) := (zip_inc L).sublist List.filter_sublist
      refine (List.Pairwise.and_mem.1 hp).imp ?_
      rintro x y ⟨hx, hy, hxy⟩
      have k1 := hm0 x hx
      have k2 := hm0 y hy
      rw [ltR_no, ltO_no]
      refine ⟨?_, .inr (by omega)⟩
      rw [r0 _ k1.1 k1.2, r0 _ k2.1 k2.2]
      unfold kpO kqO kiO Lex
      simp [k1, k2]
    · have k2 := hm0 y hy
      rcases List.mem_append.1 hx with hx | hx
      · exact cross x y (by rw [hm1 x hx, r1, r0 _ k2.1 k2.2]; decide)
      · exact cross x y (by rw [hm2 x hx, r2, r0 _ k2.1 k2.2]; decide)
end Go.Proofs.YtgbmgdffgmablaaGreat

namespace Go.Proofs.YtgbmgdffgmablaaGreat
open Go.RowKit Go.Sort Go.Lib Go.Shelf

theorem fil_le (s : Int) (L : List Od) : (L.filter (ofO s)).length ≤ L.length := List.length_filter_le _ _

theorem sortO_perm (L : List Od) : (sortO L).Perm L := by
  have h := (List.mergeSort_perm L.zipIdx (fun x y => !ltR ltO y x)).map Prod.fst
  rw [List.zipIdx_map_fst] at h
  exact h
theorem append_row {w : World} {ops : Array Oper} {rest : List Oper} {o : Oper} {a : Act} {Q : Exit → Act → World → Prop} (hgd : o.guard = none) (s x : Operand)
    (ho : o.op = .call { callee := .builtin .append, args := #[s, x], argTypes := #[29, 29] })
    (base : Nat) (v : Value) (n : Nat) (xs : List Value) (hs : a.eval s = v) (hown : w.ownsRow base 49 6 v n xs)
    (A : Option Addr) (m c : Nat) (L : List Od) (hx : a.eval x = .slice A m c) (HO : Ods w A m L) (hc : CapOk A m c) (h63 : n + m ≤ 3000) (hbase : base ≤ w.heap.size)
    (h : ∀ v' w', w'.ownsRow base 49 6 v' (n + m) (xs ++ ol L) → Below base w w' → wpList Tryz.prog ops Q rest (a.put o.dst v') w') : wpList Tryz.prog ops Q (o :: rest) a w := by
  obtain ⟨i0, hi0, hz0, hz1, hz2⟩ := info_parts info_ro
  have hl := HO.1
  have hlen : (ol L).length = m * 6 := by rw [ol_len, hl]
  cases A with
  | none =>
    obtain rfl : c = 0 := hc.2 rfl
    obtain rfl : m = 0 := by have := hc.1; omega
    have e : L = [] := List.length_eq_zero_iff.1 hl
    refine wpList_append_own_none hgd s x _ ho base _ i0 6 Tryz.underlying29 hi0 v n xs hs hown hx (h v w ?_ (Below.refl _ _ |>.mono hbase))
    rw [e]
    simpa [ol] using hown
  | some ad =>
    refine wpList_append_own _ hgd s x _ ho base _ i0 (.agg (OC ⟨0, 0, 0, 0, 0, 0⟩)) 6 48 Tryz.underlying29 hi0 hz0 hz1 hz2 rfl (by decide) v n xs hs hown ad m c (ol L) hx hlen ?_ (ol_one _) (by unfold maxLen; omega) (by omega) hbase (fun v' w' h1 h2 _ => h v' w' h1 (Below.grown ((Below.refl _ _).mono hbase) h2 hbase (fun k hk => (hown.lt k hk).1)))
    rcases HO.2.2.2 with h0 | ⟨b, off, e, _, _⟩
    · intro j u hu
      have := (List.getElem?_eq_some_iff.1 hu).1
      omega
    · injection e with e
      subst e
      have := Ods.part (i := 0) (m := m) HO (by omega)
      rw [List.drop_zero, List.take_of_length_le (by omega)] at this
      simpa using this

set_option maxHeartbeats 4000000 in
set_option maxRecDepth 1000000 in
theorem rSorted_c (A : Option Addr) (n c : Nat) (L : List Od) (w : World) (H : Ods w A n L) (hn : n ≤ 1000) :
    Calls Tryz.prog 45 #[.slice A n c] w (RowIs w (sortO L)) := by
  obtain ⟨i0, hi0, hz0, hz1, hz2⟩ := info_parts info_ro
  have HO : Aside (Ods w A n L) := H
  have HLn := Lib.hid H.1
  clear H
  have hown0 : (w.alloc (Obj.cells #[] 49)).ownsRow w.heap.size 49 6 (.slice (some ⟨w.heap.size, 0, none⟩) 0 0) 0 [] :=
    ⟨rfl, .inr ⟨w.heap.size, 0, #[], rfl, Nat.le_refl _, heap_alloc_new w _, Nat.le_refl _, Nat.zero_le _, rfl, rfl⟩⟩
  have B0 : Hid (Below w.heap.size w (w.alloc (Obj.cells #[] 49))) := (Below.refl _ _).alloc (Nat.le_refl _) _
  have HS1 := Lib.hid (rSide_c A n c 1 L _ (HO.out.below B0.out) hn)
  go_enter Tryz.func45, Tryz.ntmps45
  go_wp2_with ((with_reducible refine (HS1.out).mono ?_); rintro e w1 ⟨A1, n1, c1, rfl, HF1⟩)
  have HO1 : Aside (Ods w1 A1 n1 ((fz 1 L).map Prod.fst)) := by
    show Ods _ _ _ _
    rw [fz_fst]; exact HF1.out.2.1
  have hn1 : n1 ≤ n := by
    have h1 := HF1.out.2.1.1
    have h2 := fil_le 1 L
    have h3 := HLn.out
    omega
  have B1 : Hid (Below w.heap.size w w1) := B0.out.trans (HF1.out.1.mono B0.out.size)
  have hown1 := own_fr (S := fun _ => False) hown0 (Fr.of_below HF1.out.1) (fun _ _ h => h)
  refine (rSorted1_c A1 n1 c1 (fz 1 L) w1 HO1.out (by omega) HF1.out.2.2.1 (fz_sel (.inl rfl) L)).mono ?_
  rintro e w2 ⟨O1, p1, s1, A2, n2, c2, rfl, HF2⟩
  have hown2 := own_fr (S := fun _ => False) hown1 (Fr.of_below HF2.out.1) (fun _ _ h => h)
  have B2 : Hid (Below w.heap.size w w2) := B1.out.trans (HF2.out.1.mono B1.out.size)
  have HO2 : Aside (Ods w2 A2 n2 (O1.map Prod.fst)) := HF2.out.2.1
  have P1 : Hid (O1.Perm (fz 1 L) ∧ O1.Pairwise (fun x y => ltR ltO y x = false)) := ⟨p1, s1⟩
  have hc2 : CapOk A2 n2 c2 := HF2.out.2.2
  have hn2 : n2 ≤ n := by
    have h1 := HO2.out.1
    have h2 := p1.length_eq
    have h3 := fil_le 1 L
    rw [← fz_fst] at h3
    rw [List.length_map] at h1 h3
    have h4 := HLn.out
    omega
  clear p1 s1 HF1 HF2 HO1 hown0 hown1 B0 B1 HS1 hn1
  have hs2 := B2.out.size
  go_wp2_with (at_builtin; refine append_row rfl _ _ rfl w.heap.size _ _ _ rfl hown2 A2 n2 c2 _ rfl HO2.out hc2 (by omega) hs2 ?_)
  intro v1 w3 hown3 b3
  have B3 : Hid (Below w.heap.size w w3) := B2.out.trans b3
  have HS2 := Lib.hid (rSide_c A n c 2 L w3 (HO.out.below B3.out) hn)
  clear b3 hown2 HO2 hc2 B2 hs2
  go_wp2_with fail
  refine HS2.out.mono ?_
  rintro e w4 ⟨A3, n3, c3, rfl, HF3⟩
  have HO3 : Aside (Ods w4 A3 n3 ((fz 2 L).map Prod.fst)) := by
    show Ods _ _ _ _
    rw [fz_fst]; exact HF3.out.2.1
  have hn3 : n3 ≤ n := by
    have h1 := HF3.out.2.1.1
    have h2 := fil_le 2 L
    have h3 := HLn.out
    omega
  have B4 : Hid (Below w.heap.size w w4) := B3.out.trans (HF3.out.1.mono B3.out.size)
  have hown4 := own_fr (S := fun _ => False) hown3 (Fr.of_below HF3.out.1) (fun _ _ h => h)
  have HC2 := Lib.hid (rSorted1_c A3 n3 c3 (fz 2 L) w4 HO3.out (by omega) HF3.out.2.2.1 (fz_sel (.inr rfl) L))
  clear hown3 B3 HS2 HO3 HF3
  go_wp2_with fail
  refine HC2.out.mono ?_
  rintro e w5 ⟨O2, p2, s2, A4, n4, c4, rfl, HF4⟩
  have hown5 := own_fr (S := fun _ => False) hown4 (Fr.of_below HF4.out.1) (fun _ _ h => h)
  have B5 : Hid (Below w.heap.size w w5) := B4.out.trans (HF4.out.1.mono B4.out.size)
  have HO4 : Aside (Ods w5 A4 n4 (O2.map Prod.fst)) := HF4.out.2.1
  have P2 : Hid (O2.Perm (fz 2 L) ∧ O2.Pairwise (fun x y => ltR ltO y x = false)) := ⟨p2, s2⟩
  have hc4 : CapOk A4 n4 c4 := HF4.out.2.2
  have hn4 : n4 ≤ n := by
    have h1 := HO4.out.1
    have h2 := p2.length_eq
    have h3 := fil_le 2 L
    rw [← fz_fst] at h3
    rw [List.length_map] at h1 h3
    have h4 := HLn.out
    omega
  clear p2 s2 HF4 hown4 B4 HC2 hn3
  have hs5 := B5.out.size
  go_wp2_with (at_builtin; refine append_row rfl _ _ rfl w.heap.size _ _ _ rfl hown5 A4 n4 c4 _ rfl HO4.out hc4 (by omega) hs5 ?_)
  intro v2 w6 hown6 b6
  have B6 : Hid (Below w.heap.size w w6) := B5.out.trans b6
  have HS3 := Lib.hid (rSide_c A n c 0 L w6 (HO.out.below B6.out) hn)
  clear b6 hown5 HO4 hc4 B5 hs5
  go_wp2_with fail
  refine HS3.out.mono ?_
  rintro e w7 ⟨A5, n5, c5, rfl, HF5⟩
  have hown7 := own_fr (S := fun _ => False) hown6 (Fr.of_below HF5.out.1) (fun _ _ h => h)
  have B7 : Hid (Below w.heap.size w w7) := B6.out.trans (HF5.out.1.mono B6.out.size)
  have HO5 : Aside (Ods w7 A5 n5 (L.filter (ofO 0))) := HF5.out.2.1
  have hc5 : CapOk A5 n5 c5 := HF5.out.2.2
  have hn5 : n5 ≤ n := by
    have h1 := HO5.out.1
    have h2 := fil_le 0 L
    have h3 := HLn.out
    omega
  clear HF5 hown6 B6 HS3
  have hs7 := B7.out.size
  go_wp2_with (at_builtin; refine append_row rfl _ _ rfl w.heap.size _ _ _ rfl hown7 A5 n5 c5 _ rfl HO5.out hc5 (by omega) hs7 ?_)
  intro v3 w8 hown8 b8
  have B8 : Hid (Below w.heap.size w w8) := B7.out.trans b8
  have e8 : [] ++ ol (O1.map Prod.fst) ++ ol (O2.map Prod.fst) ++ ol (L.filter (ofO 0)) = ol (sortO L) := by
    rw [sortO_sides P1.out.1 P1.out.2 P2.out.1 P2.out.2, List.nil_append]
    unfold ol
    rw [List.flatMap_append, List.flatMap_append]
  have e9 : ol (O1.map Prod.fst) ++ ol (O2.map Prod.fst) ++ ol (L.filter (ofO 0)) = ol (sortO L) := by rw [← e8, List.nil_append]
  obtain ⟨m8, hm8⟩ : ∃ m, m = n2 + n4 + n5 := ⟨_, rfl⟩
  have hown9 : w8.ownsRow w.heap.size 49 6 v3 m8 (ol (sortO L)) := by
    rw [← e9, hm8]
    simpa using hown8
  have h8 : m8 ≤ 1000 := by
    have h1 := hown9.1
    rw [ol_len, sortO_len, HLn.out] at h1
    omega
  obtain ⟨A8, c8, rfl, hc8, ht8⟩ := own_ods hown9 h8 (fun x hx => (HO.out.below B8.out).2.2.1 x ((sortO_perm L).mem_iff.1 hx))
  have HF : Hid (Below w.heap.size w w8 ∧ Ods w8 A8 m8 (sortO L) ∧ CapOk A8 m8 c8) := ⟨B8.out, ht8, hc8⟩
  clear hown9 hown8 b8 hown7 HO5 hc5 B7 B8 ht8 hm8 e8 e9 hs7 P1 P2
  go_wp2_with fail
  go_ret
  exact ⟨A8, m8, c8, rfl, HF.out⟩
end Go.Proofs.YtgbmgdffgmablaaGreat

namespace Go.Proofs.YtgbmgdffgmablaaGreat
open Go.RowKit Go.Shelf Go.Sort

attribute [local go_sem] Oper.semAt_some

/-- What Get tells. -/
def GetIs (id : Int) (L : List Od) : Option Od → Prop
  | some x => x ∈ L ∧ x.id = id
  | none => ∀ x ∈ L, ¬ x.id = id
def optV : Option Od → Value
  | some x => .agg (OC x)
  | none => .agg (OC ⟨0, 0, 0, 0, 0, 0⟩)
theorem Cl.put {T : TypeId} {X : World} {c : Nat} {cs : Array Value} (h : Cl T X c cs) (D : Nat) {o o' : Obj} (hD : X.heap[D]? = some o) (ho : o.isCells = false) : Cl T (X.putObj D o') c cs :=
  (World.putObj_heap_other (fun e => by rw [← e, show X.heap[c]? = _ from h] at hD; cases hD; cases ho)).trans h
theorem flatR_app (R1 R2 : List Rw) : flatR (R1 ++ R2) = bookL R1 R2 := by
  unfold flatR bookL flatR
  rw [List.flatMap_append]
theorem keeps_below {B : Nat} {W wr : World} (h : Below W.heap.size W wr) : KeepsFrom B W wr :=
  KeepsFrom.of_grownBy (row := none) ⟨h.os, h.tape, h.output, h.size, fun i hi _ => h.block i hi⟩ (fun j e => by cases e)
/-- An order is put into a box. -/
def put6 (X : World) (c : Nat) (o : Od) : World := (((((X.setCell ⟨c, 0, none⟩ (.int .u64 o.id)).setCell ⟨c, 1, none⟩ (.int .i64 o.acc)).setCell ⟨c, 2, none⟩ (.int .i64 o.side)).setCell ⟨c, 3, none⟩ (.int .i64 o.price)).setCell ⟨c, 4, none⟩ (.int .i64 o.qty)).setCell ⟨c, 5, none⟩ (.int .u64 o.seq)
theorem put6_cl {T : TypeId} {X : World} {c : Nat} {z : Od} (o : Od) (h : Cl T X c (OC z)) : Cl T (put6 X c o) c (OC o) := by
  have h0 : X.heap[c]? = some (.cells (OC z) T (0, 0)) := h
  unfold Cl put6
  rw [heap_set (heap_set (heap_set (heap_set (heap_set (heap_set h0)))))]
  rfl
theorem put6_far (X : World) {c k : Nat} (o : Od) (h : k ≠ c) : (put6 X c o).heap[k]? = X.heap[k]? := by
  unfold put6
  rw [heap_far (by exact h), heap_far (by exact h), heap_far (by exact h), heap_far (by exact h), heap_far (by exact h), heap_far (by exact h)]
theorem put6_below {X : World} {B c : Nat} {w : World} (o : Od) (hc : B ≤ c) (h : Below B w X) : Below B w (put6 X c o) := by
  unfold put6
  exact (((((h.setCell (p := ⟨c, 0, none⟩) hc _).setCell (p := ⟨c, 1, none⟩) hc _).setCell (p := ⟨c, 2, none⟩) hc _).setCell (p := ⟨c, 3, none⟩) hc _).setCell (p := ⟨c, 4, none⟩) hc _).setCell (p := ⟨c, 5, none⟩) hc _
theorem put6_keeps (X : World) (B c : Nat) (o : Od) : KeepsFrom B X (put6 X c o) := by
  unfold put6
  exact ((((((KeepsOthers.setCell _ _ _).trans (KeepsOthers.setCell _ _ _)).trans (KeepsOthers.setCell _ _ _)).trans (KeepsOthers.setCell _ _ _)).trans (KeepsOthers.setCell _ _ _)).trans (KeepsOthers.setCell _ _ _)).from B
theorem retO2 {fn : Func} {p q : Tmp} (h : fn.results = #[.cell p 38, .cell q 4]) (tmps : Array Value) (w : World) (g k : Nat) (hp : tmps.getD p undef = .pointer (some ⟨g, 0, none⟩)) (hq : tmps.getD q undef = .pointer (some ⟨k, 0, none⟩)) (z : Od) (t t' : TypeId) (bb : Bool)
    (hg : Cl t w g (OC z)) (hk : Cl t' w k #[.bool bb]) : (results fn tmps).run Tryz.prog w = .ok (.tuple #[.agg (OC z), .bool bb]) w := by
  have hp' : tmps[p]?.getD undef = .pointer (some ⟨g, 0, none⟩) := by simpa using hp
  have hq' : tmps[q]?.getD undef = .pointer (some ⟨k, 0, none⟩) := by simpa using hq
  have hc : w.cell? ⟨k, 0, none⟩ = some (.bool bb) := (hk.c 0).trans rfl
  have hl : (loadVar 4 ⟨k, 0, none⟩).run Tryz.prog w = .ok (.bool bb) w := by
    simp [loadVar, go_sem, hc, Tryz.isAgg4]
  simp [results, h, hp', hq', asAddr, run_loadVar_row w g _ _ _ (0, 0) _ hg Tryz.underlying38 rfl infoO, hl]
theorem mem_place {q : List Od} {j : Nat} {o : Od} (hj : j < q.length) (h : q[j]! = o) : o ∈ q := by
  rw [← h, getElem!_pos q j hj]; exact List.getElem_mem hj
theorem none_there {q : List Od} {id : Int} {n j : Nat} (hn : q.length = n) (hj : ¬ j < n) (h : ∀ k, k < j → ¬ (q[k]!).id = id) : ∀ x ∈ q, ¬ x.id = id := by
  intro x hx
  obtain ⟨k, hk, rfl⟩ := List.mem_iff_getElem.1 hx
  have := h k (by omega)
  rwa [getElem!_pos q k hk] at this
theorem not_upto {q : List Od} {id : Int} {j : Nat} {o : Od} (h : ∀ k, k < j → ¬ (q[k]!).id = id) (ho : q[j]! = o) (he : ¬ o.id = id) : ∀ k, k < j + 1 → ¬ (q[k]!).id = id := by
  intro k hk
  rcases Nat.lt_succ_iff_lt_or_eq.1 hk with h' | h'
  · exact h k h'
  · rw [h', ho]; exact he
theorem less_left {n j : Nat} (hj : j < n) : n - ((j : Int) + 1).toNat < n - j := by omega
theorem flat_snoc {s1 s2 : Sd} (pre : List (Rx s1 s2)) (x : Rx s1 s2) : flatR (vals (pre ++ [x])) = flatR (vals pre) ++ x.1.q := by
  unfold flatR vals
  simp
set_option maxHeartbeats 4000000 in
set_option maxRecDepth 100000 in
theorem lGet_c (b : Option Addr) (m : Option Nat) (s1 s2 : Sd) (id : Int) (w : World) (H : Bk w b m s1 s2) (hR1 : s1.rs.length ≤ 1000) (hR2 : s2.rs.length ≤ 1000) (hQ : lenQ (s1.rs ++ s2.rs) ≤ 1000) :
    Calls Tryz.prog 172 #[.pointer b, .int .u64 id] w fun e w' => ∃ r, e = .returned (.tuple #[optV r, .bool r.isSome]) ∧ Hid (GetIs id (bookL s1.rs s2.rs) r ∧ Below w.heap.size w w') := by
  refine (callsIn_wide (n := 5)).1 ?_
  refine callsIn_of_wp_marks Tryz.func172 rfl trivial ?_ rfl
  simp only [Tryz.ntmps172, List.size_toArray, List.length_cons, List.length_nil, Nat.reduceAdd, Nat.reduceSub, Array.replicate_succ, Array.replicate_zero, List.push_toArray, List.append_toArray, List.nil_append, List.cons_append]
  gi_wp2_with (refine ⟨trivial, ?_⟩; refine ((callsIn_wide (n := 5 - 1)).2 (over_c _ _ _ _ _)).mono ?_; rintro e w' ⟨rfl, rfl⟩)
  obtain ⟨W1, hW1⟩ : ∃ W1, ((w.alloc (.cells #[.int .u64 id] 35)).alloc (.cells (OC ⟨0, 0, 0, 0, 0, 0⟩) 38)).alloc (.cells #[.bool false] 4) = W1 := ⟨_, rfl⟩
  have hz1 : W1.heap.size = w.heap.size + 3 := by rw [← hW1]; simp
  have hB1 : Below w.heap.size w W1 := by rw [← hW1]; exact (((Below.refl _ _).alloc (Nat.le_refl _) _).alloc (by simp) _).alloc (by simp; omega) _
  have hM := ov_two (fun k => k = w.heap.size + 1 ∨ k = w.heap.size + 2 ∨ w.heap.size + 6 ≤ k) W1 b m s1 s2 (H.below hB1) (fun k hk hS => by have := H.lt hk; omega) (by omega) (by omega) (by omega)
  obtain ⟨W0, hW0⟩ : ∃ W0, (((W1.alloc (.cells #[.int .i64 1, .int .i64 2] 3)).alloc (.cells #[.pointer b] 102)).alloc (.cells #[.slice (some ⟨W1.heap.size, 0, none⟩) 2 2] 216)) = W0 := ⟨_, rfl⟩
  have hB01 : Below W1.heap.size W1 W0 := by rw [← hW0]; exact (((Below.refl _ _).alloc (Nat.le_refl _) _).alloc (by simp) _).alloc (by simp; omega) _
  have hc0 : Cl 35 W0 w.heap.size #[.int .u64 id] := by
    refine (hB01.block _ (by omega)).trans ?_
    rw [← hW1]
    exact hd_prev (by simp; omega) (hd_prev (by simp) (hd_last rfl))
  have hc1 : Cl 38 W0 (w.heap.size + 1) (OC ⟨0, 0, 0, 0, 0, 0⟩) := by
    refine (hB01.block _ (by omega)).trans ?_
    rw [← hW1]
    exact hd_prev (by simp) (hd_last (by simp))
  have hc2 : Cl 4 W0 (w.heap.size + 2) #[.bool false] := by
    refine (hB01.block _ (by omega)).trans ?_
    rw [← hW1]
    exact hd_last (by simp)
  have hB0 : Below w.heap.size w W0 := hB1.trans (hB01.mono (by omega))
  have hsz : W0.heap.size = w.heap.size + 6 := by rw [← hW0]; simp; omega
  rw [hW0] at hM
  rw [hz1] at hM hW0
  rw [show (((((w.alloc (.cells #[.int .u64 id] 35)).alloc (.cells #[.int .u64 0, .int .i64 0, .int .i64 0, .int .i64 0, .int .i64 0, .int .u64 0] 38)).alloc (.cells #[.bool false] 4)).alloc (.cells #[.int .i64 1, .int .i64 2] 3)).alloc (.cells #[.pointer b] 102)).alloc (.cells #[.slice (some ⟨w.heap.size + 1 + 1 + 1, 0, none⟩) 2 2] 216) = W0 from by rw [hW1]; exact hW0]
  clear hW0 hW1 hz1 hB1 hB01
  have hQq : ∀ x : Rx s1 s2, x.1.q.length ≤ 1000 := fun x => Nat.le_trans lenQ_pre hQ
  have HQ : Aside (∀ x : Rx s1 s2, ∃ A c, x.1.v = .slice A x.1.q.length c ∧ QueAt w A x.1.q.length x.1.q) := fun x => own_que (H.q x.1 x.2)
  refine wpIn_rangeFunc_ownH rfl (by omega) (gf := 187) (lb := #[.pointer (some ⟨w.heap.size + 5, 0, none⟩), .pointer (some ⟨w.heap.size + 4, 0, none⟩)]) rfl trivial (enters_of Tryz.func187 (by kernel_rfl) rfl)
    (over_stops (5 - 1) (by omega) (fun k => k = w.heap.size + 1 ∨ k = w.heap.size + 2 ∨ w.heap.size + 6 ≤ k) (w.heap.size + 5) (w.heap.size + 4) (w.heap.size + 3) [1, 2] b m s1 s2 (by simp) hR1 hR2 W0 (s1.rs ++ s2.rs).length (by rw [two_sides]; exact Nat.le_refl _) hM) Fr.t (fun W l o o' hl ho _ _ => fr_b W l o o' (.inr (.inr (by omega))) ho) (Below.refl _ _) (fun _ => rfl)
    (fun pre W => ((Cl 35 W w.heap.size #[.int .u64 id] ∧ Cl 38 W (w.heap.size + 1) (OC ⟨0, 0, 0, 0, 0, 0⟩) ∧ Cl 4 W (w.heap.size + 2) #[.bool false]) ∧ ∀ x ∈ flatR (vals pre), ¬ x.id = id) ∧ Below w.heap.size w W)
    (fun c pre W => (c = .ret ∧ ∃ x : Od, x ∈ flatR (vals pre) ∧ x.id = id ∧ Cl 38 W (w.heap.size + 1) (OC x) ∧ Cl 4 W (w.heap.size + 2) #[.bool true]) ∧ Below w.heap.size w W)
    (OwnFrom.and (Own.from (fun s A B row hs hg hr => ⟨⟨hs.1.1.own hg hr, hs.1.2.1.own hg hr, hs.1.2.2.own hg hr⟩, hs.2⟩) _) (ownFrom_below (Nat.le_refl _) (by omega)))
    (fun c => OwnFrom.and (Own.from (fun s A B row hs hg hr => by
      obtain ⟨h1, x, h2, h3, h4, h5⟩ := hs
      exact ⟨h1, x, h2, h3, h4.own hg hr, h5.own hg hr⟩) _) (ownFrom_below (Nat.le_refl _) (by omega)))
    ⟨⟨⟨hc0, hc1, hc2⟩, fun x hx => by cases hx⟩, hB0⟩
    (AxR (w.heap.size + 3) #[.pointer b, .int .u64 id, undef, .pointer (some ⟨w.heap.size, 0, none⟩), .pointer (some ⟨w.heap.size + 1, 0, none⟩), .pointer (some ⟨w.heap.size + 2, 0, none⟩), undef, undef, undef, .pointer b, .slice (some ⟨w.heap.size + 3, 0, none⟩) 2 2, .func (.func 187) #[] #[.pointer (some ⟨w.heap.size + 5, 0, none⟩), .pointer (some ⟨w.heap.size + 4, 0, none⟩)], undef, undef, undef, undef, undef, undef, undef, undef, undef, undef, undef, undef, undef, undef, undef] 6 12)
    (fun x a' _ X Y row hs hg hr => by obtain ⟨B, A, c, h1, h2, h3⟩ := hs; exact ⟨B, A, c, h1, h2.own hg (fun r e => (hr r e).2), h3⟩)
    ?assign ?body ?done ?stop
  case assign =>
    rintro l0 pre x W K ⟨⟨⟨hc, hc', hc''⟩, hn⟩, hB⟩ hK
    obtain ⟨A, c, hv, _⟩ := HQ.out x
    have hval : Rw.val x.1 = .agg #[.int .i64 x.1.pr, .slice A x.1.q.length c] := by unfold Rw.val; rw [hv]
    unfold AxR at hK
    simp only [hval] at hK ⊢
    gi_wp2
    refine hK _ _ ((KeepsOthers.alloc _ _).from _) ((Fr.refl _ W).alloc _) ⟨⟨⟨hd_prev (blk_lt hc) hc, hd_prev (blk_lt hc') hc', hd_prev (blk_lt hc'') hc''⟩, hn⟩, hB.alloc hB.size _⟩ ⟨W.heap.size, A, c, ?_, hd_last rfl, hv, rfl⟩
    have := blk_lt hc''
    omega
  case body =>
    rintro l0 pre x a' W hl ⟨r, hr⟩ ⟨⟨⟨hc, hc', hc''⟩, hn⟩, hB⟩ ⟨Bx, A, c, hBx, bX, hv, rfl⟩ hlt
    have p0 : W.cell? ⟨w.heap.size, 0, none⟩ = some (.int .u64 id) := (hc.c 0).trans rfl
    have p1 : W.cell? ⟨Bx, 1, none⟩ = some (.slice A x.1.q.length c) := (bX.c 1).trans rfl
    have hval : Rw.val x.1 = .agg #[.int .i64 x.1.pr, .slice A x.1.q.length c] := by unfold Rw.val; rw [hv]
    simp only [hval]
    have hQW : Aside (QueAt W A x.1.q.length x.1.q) := by
      obtain ⟨A', c', hv', hq⟩ := HQ.out x
      rw [hv] at hv'
      injection hv' with hv'
      rw [← hv'] at hq
      exact hq.fr (fr_low hB) (fun g hg => by
        intro hle
        have := H.lt (.inr (.inr (.inr (.inr ⟨x.1, x.2, by rw [hv, hg]; rfl⟩))) : foot b m s1 s2 g)
        omega)
    have hq1 := hQq x
    have Hflat := Lib.hid (flat_snoc pre x)
    obtain ⟨q, hq⟩ : ∃ q, x.1.q = q := ⟨_, rfl⟩
    obtain ⟨pr, hpr⟩ : ∃ pr, x.1.pr = pr := ⟨_, rfl⟩
    obtain ⟨n, hnq⟩ : ∃ n, q.length = n := ⟨_, rfl⟩
    rw [hq, hnq] at hQW p1 bX
    rw [hq] at Hflat
    rw [hq] at hq1
    rw [hnq] at hq1
    rw [hpr] at bX
    simp only [hq, hnq, hpr]
    have HW := Lib.hid (And.intro hc (And.intro hc' (And.intro hc'' (And.intro hn (And.intro hB (And.intro bX (And.intro hl hnq)))))))
    clear hc hc' hc'' hn hB bX hl hval hv hpr hnq hBx
    gi_wp2_with fail
    gi_loopw [16] (fun s wq => ∃ j : Nat, s = .int .i64 (j : Int) ∧ Hid (j ≤ n ∧ (∀ k, k < j → ¬ (q[k]!).id = id) ∧ Below W.heap.size W wq)) (fun s _ => match s with | .int _ z => n - z.toNat | _ => 0)
    case atStart => exact ⟨0, rfl, Nat.zero_le _, fun k hk => absurd hk (Nat.not_lt_zero _), Below.refl _ _⟩
    case round =>
      clear p0 p1
      obtain ⟨j, rfl, hd⟩ := hrel
      have hb := hd.out.2.2
      have p0 : wr.cell? ⟨w.heap.size, 0, none⟩ = some (.int .u64 id) := ((Cl.c (HW.out.1) 0).trans rfl : W.cell? ⟨w.heap.size, 0, none⟩ = some (.int .u64 id)) |> cell_keep (S := fun _ => False) (Fr.of_below hb) (fun h => h)
      have r0 : Cl 38 wr (w.heap.size + 1) (OC ⟨0, 0, 0, 0, 0, 0⟩) := (hb.block _ (blk_lt HW.out.2.1)).trans HW.out.2.1
      have r1 : Cl 4 wr (w.heap.size + 2) #[.bool false] := (hb.block _ (blk_lt HW.out.2.2.1)).trans HW.out.2.2.1
      by_cases hj : j < n
      · obtain ⟨g, rfl, hg, hcs⟩ : ∃ g, A = some ⟨g, 0, none⟩ ∧ g < W.heap.size ∧ (q[j]!).at W g (j * 6) := by
          rcases hQW.2 with h0 | ⟨g, h1, h2, h3⟩
          · omega
          · exact ⟨g, h1, h2, h3 j hj⟩
        obtain ⟨x0, x1, x2, x3, x4, x5⟩ := Od.at_fr hcs hg (Fr.of_below (S := fun _ => False) hb) (fun h => h)
        obtain ⟨o, ho⟩ : ∃ o, q[j]! = o := ⟨_, rfl⟩
        rw [ho] at x0 x1 x2 x3 x4 x5
        have hjI : (j : Int) < (n : Int) := by omega
        have HJ := Lib.hid (And.intro hj (And.intro ho hd.out))
        have ra0 : ∀ ob, Cl 38 (wr.alloc ob) (w.heap.size + 1) (OC ⟨0, 0, 0, 0, 0, 0⟩) := fun ob => hd_prev (blk_lt r0) r0
        have ra1 : ∀ ob, Cl 4 (wr.alloc ob) (w.heap.size + 2) #[.bool false] := fun ob => hd_prev (blk_lt r1) r1
        have pa0 : ∀ ob, (wr.alloc ob).cell? ⟨w.heap.size, 0, none⟩ = some (.int .u64 id) := fun ob => cell_alloc_sl ob p0
        have rb0 := fun ob => (ra0 ob).f (k := 0)
        have rb1 := fun ob => (ra0 ob).f (k := 1)
        have rb2 := fun ob => (ra0 ob).f (k := 2)
        have rb3 := fun ob => (ra0 ob).f (k := 3)
        have rb4 := fun ob => (ra0 ob).f (k := 4)
        have rb5 := fun ob => (ra0 ob).f (k := 5)
        have rc0 := fun ob => (ra1 ob).f (k := 0)
        have k0 : ∀ ob, (wr.alloc ob).cell? ⟨w.heap.size + 1, 0, none⟩ = some (.int .u64 0) := fun ob => ((ra0 ob).c 0).trans rfl
        have k1 : ∀ ob, (wr.alloc ob).cell? ⟨w.heap.size + 1, 1, none⟩ = some (.int .i64 0) := fun ob => ((ra0 ob).c 1).trans rfl
        have k2 : ∀ ob, (wr.alloc ob).cell? ⟨w.heap.size + 1, 2, none⟩ = some (.int .i64 0) := fun ob => ((ra0 ob).c 2).trans rfl
        have k3 : ∀ ob, (wr.alloc ob).cell? ⟨w.heap.size + 1, 3, none⟩ = some (.int .i64 0) := fun ob => ((ra0 ob).c 3).trans rfl
        have k4 : ∀ ob, (wr.alloc ob).cell? ⟨w.heap.size + 1, 4, none⟩ = some (.int .i64 0) := fun ob => ((ra0 ob).c 4).trans rfl
        have k5 : ∀ ob, (wr.alloc ob).cell? ⟨w.heap.size + 1, 5, none⟩ = some (.int .u64 0) := fun ob => ((ra0 ob).c 5).trans rfl
        have kc : ∀ ob, (wr.alloc ob).cell? ⟨w.heap.size + 2, 0, none⟩ = some (.bool false) := fun ob => ((ra1 ob).c 0).trans rfl
        clear hcs hg hd hb ho hj
        by_cases he : o.id = id
        · have eb : (o.id == id) = true := by simp [he]
          have He := Lib.hid he
          clear he
          gi_wp2_with fail
          have hb2 : Below W.heap.size W (wr.alloc (.cells (OC o) 38)) := HJ.out.2.2.2.2.alloc HJ.out.2.2.2.2.size _
          have hbw : Below w.heap.size w (wr.alloc (.cells (OC o) 38)) := HW.out.2.2.2.2.1.trans (hb2.mono HW.out.2.2.2.2.1.size)
          have hcl := put6_cl o (ra0 (.cells (OC o) 38))
          refine ⟨((keeps_below hb2).trans (put6_keeps _ _ (w.heap.size + 1) o)).trans ((KeepsOthers.setCell _ _ _).from _), ⟨rfl, o, by rw [Hflat.out]; exact List.mem_append_right _ (mem_place (by rw [HW.out.2.2.2.2.2.2.2]; exact HJ.out.1) HJ.out.2.1), He.out, ?_, ?_⟩, (put6_below o (Nat.le_succ _) hbw).setCell (p := ⟨w.heap.size + 2, 0, none⟩) (Nat.le_add_right _ _) _⟩
          · exact (heap_far (a := ⟨w.heap.size + 2, 0, none⟩) (Nat.ne_of_lt (Nat.lt_succ_self _))).trans hcl
          · exact (heap_set ((put6_far _ o (Nat.ne_of_gt (Nat.lt_succ_self _))).trans (ra1 _))).trans rfl
        · have eb : (o.id == id) = false := by simp [he]
          have He := Lib.hid he
          have hw9 : IntKind.i64.wrap ((j : Int) + 1) = ((j + 1 : Nat) : Int) := by rw [IntKind.wrap_i64]; omega
          clear he
          gi_wp2_with fail
          exact ⟨⟨j + 1, rfl, HJ.out.1, not_upto HJ.out.2.2.2.1 HJ.out.2.1 He.out, HJ.out.2.2.2.2.alloc HJ.out.2.2.2.2.size _⟩, less_left HJ.out.1⟩
      · have hjI : ¬ (j : Int) < (n : Int) := by omega
        have HJ := Lib.hid (And.intro hj hd.out)
        clear hd hj
        gi_wp2_with fail
        have hb2 := HJ.out.2.2.2
        refine ⟨keeps_below hb2, Fr.of_below hb2, ⟨⟨(hb2.block _ (blk_lt HW.out.1)).trans HW.out.1, r0, r1⟩, fun y hy => ?_⟩, HW.out.2.2.2.2.1.trans (hb2.mono HW.out.2.2.2.2.1.size)⟩
        rw [Hflat.out] at hy
        rcases List.mem_append.1 hy with hy | hy
        · exact HW.out.2.2.2.1 y hy
        · exact none_there HW.out.2.2.2.2.2.2.2 HJ.out.1 HJ.out.2.2.1 y hy
  case done =>
    rintro D ys W hD hys ⟨⟨⟨hc, hc', hc''⟩, hn⟩, hB⟩ hK
    rw [two_sides] at hys
    rw [hys] at hn
    have k0 : W.cell? ⟨w.heap.size + 1, 0, none⟩ = some (.int .u64 0) := (hc'.c 0).trans rfl
    have f0 := hc'.f (k := 0)
    have k1 : W.cell? ⟨w.heap.size + 1, 1, none⟩ = some (.int .i64 0) := (hc'.c 1).trans rfl
    have f1 := hc'.f (k := 1)
    have k2 : W.cell? ⟨w.heap.size + 1, 2, none⟩ = some (.int .i64 0) := (hc'.c 2).trans rfl
    have f2 := hc'.f (k := 2)
    have k3 : W.cell? ⟨w.heap.size + 1, 3, none⟩ = some (.int .i64 0) := (hc'.c 3).trans rfl
    have f3 := hc'.f (k := 3)
    have k4 : W.cell? ⟨w.heap.size + 1, 4, none⟩ = some (.int .i64 0) := (hc'.c 4).trans rfl
    have f4 := hc'.f (k := 4)
    have k5 : W.cell? ⟨w.heap.size + 1, 5, none⟩ = some (.int .u64 0) := (hc'.c 5).trans rfl
    have f5 := hc'.f (k := 5)
    have k6 : W.cell? ⟨w.heap.size + 2, 0, none⟩ = some (.bool false) := (hc''.c 0).trans rfl
    have f6 := hc''.f (k := 0)
    gi_wp2_with fail
    have hK6 : (put6 W (w.heap.size + 1) ⟨0, 0, 0, 0, 0, 0⟩).heap[D]? = some (.deferred (some [])) := (put6_far W _ (by omega)).trans hK
    have hK7 : ((put6 W (w.heap.size + 1) ⟨0, 0, 0, 0, 0, 0⟩).setCell ⟨w.heap.size + 2, 0, none⟩ (.bool false)).heap[D]? = some (.deferred (some [])) := (heap_far (a := ⟨w.heap.size + 2, 0, none⟩) (by show D ≠ w.heap.size + 2; omega)).trans hK6
    have hB7 : Below w.heap.size w ((put6 W (w.heap.size + 1) ⟨0, 0, 0, 0, 0, 0⟩).setCell ⟨w.heap.size + 2, 0, none⟩ (.bool false)) := (put6_below _ (Nat.le_succ _) hB).setCell (p := ⟨w.heap.size + 2, 0, none⟩) (Nat.le_add_right _ _) _
    have hc7 : Cl 38 ((put6 W (w.heap.size + 1) ⟨0, 0, 0, 0, 0, 0⟩).setCell ⟨w.heap.size + 2, 0, none⟩ (.bool false)) (w.heap.size + 1) (OC ⟨0, 0, 0, 0, 0, 0⟩) := (heap_far (a := ⟨w.heap.size + 2, 0, none⟩) (Nat.ne_of_lt (Nat.lt_succ_self _))).trans (put6_cl _ hc')
    have hd7 : Cl 4 ((put6 W (w.heap.size + 1) ⟨0, 0, 0, 0, 0, 0⟩).setCell ⟨w.heap.size + 2, 0, none⟩ (.bool false)) (w.heap.size + 2) #[.bool false] := (heap_set ((put6_far W _ (Nat.ne_of_gt (Nat.lt_succ_self _))).trans hc'')).trans rfl
    refine ⟨by simp, .inl ⟨_, _, rfl, run_takeDeferred hK7, ?_⟩⟩
    refine ⟨_, retO2 rfl _ _ _ _ rfl rfl _ _ _ _ (hc7.put D hK7 rfl) (hd7.put D hK7 rfl), none, rfl, Lib.hid ⟨?_, hB7.trans (belowK_b (w := w) (Nat.le_refl _) _ D _ _ (by omega) hK7 rfl rfl)⟩⟩
    intro x hx
    exact hn x (by rwa [flatR_app])
  case stop =>
    rintro D c pre W hD hS ⟨⟨rfl, x, hx, hid, hat, hbo⟩, hB⟩ hK
    gi_wp2_with fail
    refine ⟨by simp, .inl ⟨_, _, rfl, run_takeDeferred hK, ?_⟩⟩
    refine ⟨_, retO2 rfl _ _ _ _ rfl rfl _ _ _ _ (hat.put D hK rfl) (hbo.put D hK rfl), some x, rfl, Lib.hid ⟨⟨?_, hid⟩, hB.trans (belowK_b (w := w) (Nat.le_refl _) _ D _ _ (by omega) hK rfl rfl)⟩⟩
    rw [two_sides] at hS
    rw [← flatR_app]
    obtain ⟨r, hr, hxr⟩ := List.mem_flatMap.1 hx
    exact List.mem_flatMap.2 ⟨r, hS.subset hr, hxr⟩
end Go.Proofs.YtgbmgdffgmablaaGreat

namespace Go.Proofs.YtgbmgdffgmablaaGreat
open Go.RowKit Go.Sort Go.Lib Go.Shelf

theorem own_base {w : World} {b b' n size : Nat} {e : TypeId} {v : Value} {xs : List Value} (h : w.ownsRow b e size v n xs) (hb : b' ≤ b) : w.ownsRow b' e size v n xs := by
  obtain ⟨h1, h2⟩ := h
  refine ⟨h1, ?_⟩
  rcases h2 with h | ⟨g, cp, cur, hv, hg, rest⟩
  · exact .inl h
  · exact .inr ⟨g, cp, cur, hv, Nat.le_trans hb hg, rest⟩
/-- 'copy' of elements of k cells. -/
theorem run_copyK (w : World) (dT sT ty elem : TypeId) (k g o dLen dCap : Nat) (a : Addr) (sLen sCap : Nat) (cur : Array Value) (t : TypeId) (cs : List Value)
    (hu : Tryz.prog.underlying dT = some (.slice elem)) (hs : (Tryz.prog.info? elem).map (·.size) = some k)
    (hg : w.heap[g]? = some (.cells cur t (0, 0))) (m : Nat) (hm : Nat.min sLen dLen = m) (hn : cs.length = m * k)
    (hsrc : ∀ j v, cs[j]? = some v → w.cell? (a.add j) = some v) (hfit : o + cs.length ≤ cur.size) (h1 : ∀ v ∈ cs, v.oneCell' = true) :
    (Builtin.copy_ #[dT, sT] ty #[.slice (some ⟨g, o, none⟩) dLen dCap, .slice (some a) sLen sCap]).run Tryz.prog w =
      .ok (goInt m) (w.setRow g (cur.toList.take o ++ cs ++ cur.toList.drop (o + cs.length)).toArray) := by
  have hl := run_loadCells_list (P := Tryz.prog) w a cs hsrc
  have hst := run_storeCells_at Tryz.prog g o t cs 0 cur w hg (by simpa using hfit) h1
  cases hq : Tryz.prog.info? elem with
  | none => simp [hq] at hs
  | some i =>
    have hi : i.size = k := by simpa [hq] using hs
    simp [Builtin.copy_, run_underlying hu, Builtin.lenOf, Builtin.firstCells, sizeOf, typeInfo, hq, hi, hm, ← hn, hl, hst]
/-- What block g holds behind an insertion in place. -/
def insC (cur ys : List Value) (n i k : Nat) : List Value := cur.take (i * k) ++ ys ++ (cur.drop (i * k)).take ((n - i) * k) ++ cur.drop ((n + 1) * k)
theorem insC_steps {cur ys : List Value} {n i k c : Nat} (hi : i ≤ n) (hc : n + 1 ≤ c) (hl : cur.length = c * k) (hy : ys.length = k) :
    (cur.take ((i + 1) * k) ++ (cur.drop (i * k)).take ((n - i) * k) ++ cur.drop ((i + 1) * k + ((cur.drop (i * k)).take ((n - i) * k)).length)).take (i * k) ++ ys ++
      (cur.take ((i + 1) * k) ++ (cur.drop (i * k)).take ((n - i) * k) ++ cur.drop ((i + 1) * k + ((cur.drop (i * k)).take ((n - i) * k)).length)).drop (i * k + ys.length) = insC cur ys n i k := by
  have e1 : (i + 1) * k = i * k + k := Nat.succ_mul i k
  have e2 : (n + 1) * k = n * k + k := Nat.succ_mul n k
  have e3 : (n - i) * k = n * k - i * k := Nat.sub_mul n i k
  have h1 : i * k ≤ n * k := Nat.mul_le_mul_right k hi
  have h2 : n * k + k ≤ c * k := by rw [← e2]; exact Nat.mul_le_mul_right k hc
  have lx : ((cur.drop (i * k)).take ((n - i) * k)).length = n * k - i * k := by rw [List.length_take, List.length_drop]; omega
  have lt : (cur.take ((i + 1) * k)).length = i * k + k := by rw [List.length_take]; omega
  rw [lx]
  have a1 : (cur.take ((i + 1) * k) ++ (cur.drop (i * k)).take ((n - i) * k) ++ cur.drop ((i + 1) * k + (n * k - i * k))).take (i * k) = cur.take (i * k) := by
    rw [List.append_assoc, List.take_append_of_le_length (by omega), List.take_take, Nat.min_eq_left (by omega)]
  have a2 : (cur.take ((i + 1) * k) ++ (cur.drop (i * k)).take ((n - i) * k) ++ cur.drop ((i + 1) * k + (n * k - i * k))).drop (i * k + ys.length) = (cur.drop (i * k)).take ((n - i) * k) ++ cur.drop ((n + 1) * k) := by
    rw [List.append_assoc, List.drop_append, lt, hy]
    have z : (cur.take ((i + 1) * k)).drop (i * k + k) = [] := List.drop_eq_nil_of_le (by omega)
    rw [z, Nat.sub_self, List.drop_zero, List.nil_append, show (i + 1) * k + (n * k - i * k) = (n + 1) * k by omega]
  rw [a1, a2]
  unfold insC
  simp only [List.append_assoc]
theorem insC_take {cur ys xs : List Value} {n i k c : Nat} (hi : i ≤ n) (hc : n + 1 ≤ c) (hl : cur.length = c * k) (hy : ys.length = k) (hx : cur.take (n * k) = xs) :
    (insC cur ys n i k).length = c * k ∧ (insC cur ys n i k).take ((n + 1) * k) = xs.take (i * k) ++ ys ++ xs.drop (i * k) := by
  have e2 : (n + 1) * k = n * k + k := Nat.succ_mul n k
  have e3 : (n - i) * k = n * k - i * k := Nat.sub_mul n i k
  have h1 : i * k ≤ n * k := Nat.mul_le_mul_right k hi
  have h2 : n * k + k ≤ c * k := by rw [← e2]; exact Nat.mul_le_mul_right k hc
  have lx : ((cur.drop (i * k)).take ((n - i) * k)).length = n * k - i * k := by rw [List.length_take, List.length_drop]; omega
  have ly : (cur.take (i * k)).length = i * k := by rw [List.length_take]; omega
  refine ⟨?_, ?_⟩
  · unfold insC
    simp only [List.length_append, lx, ly, hy, List.length_drop]
    omega
  · unfold insC
    rw [List.take_append_of_le_length (by simp only [List.length_append, lx, ly, hy]; omega), List.take_of_length_le (by simp only [List.length_append, lx, ly, hy]; omega)]
    rw [← hx, List.take_take, Nat.min_eq_left h1, List.drop_take, e3]
theorem grow_steps {R xs ys : List Value} {n i k G : Nat} (hR : R.take (i * k) = xs.take (i * k)) (lR : R.length = G * k) (hG : n + 1 ≤ G) (hx : xs.length = n * k) (hy : ys.length = k) (hi : i ≤ n) {R1 R2 : List Value} (e1 : R1 = R.take (i * k) ++ ys ++ R.drop (i * k + ys.length)) (e2 : R2 = R1.take ((i + 1) * k) ++ xs.drop (i * k) ++ R1.drop ((i + 1) * k + (xs.drop (i * k)).length)) :
    R1.length = G * k ∧ R2.length = G * k ∧ R2.take ((n + 1) * k) = xs.take (i * k) ++ ys ++ xs.drop (i * k) := by
  have a1 : (i + 1) * k = i * k + k := Nat.succ_mul i k
  have a2 : (n + 1) * k = n * k + k := Nat.succ_mul n k
  have h1 : i * k ≤ n * k := Nat.mul_le_mul_right k hi
  have h2 : n * k + k ≤ G * k := by rw [← a2]; exact Nat.mul_le_mul_right k hG
  have lt : (R.take (i * k)).length = i * k := by rw [List.length_take]; omega
  have l1 : R1.length = G * k := by rw [e1]; simp only [List.length_append, lt, hy, List.length_drop]; omega
  have t1 : R1.take ((i + 1) * k) = xs.take (i * k) ++ ys := by
    rw [e1, List.take_append_of_le_length (by simp only [List.length_append, lt, hy]; omega), List.take_of_length_le (by simp only [List.length_append, lt, hy]; omega), hR]
  have lx : (xs.take (i * k)).length = i * k := by rw [List.length_take]; omega
  have ld : (xs.drop (i * k)).length = n * k - i * k := by rw [List.length_drop, hx]
  refine ⟨l1, ?_, ?_⟩
  · rw [e2, t1]; simp only [List.length_append, lx, hy, ld, List.length_drop, l1]; omega
  · rw [e2, t1, List.take_append_of_le_length (by simp only [List.length_append, lx, hy, ld]; omega), List.take_of_length_le (by simp only [List.length_append, lx, hy, ld]; omega)]
/-- Behind an insertion in place. -/
def InsIn (w : World) (g : Nat) (E : TypeId) (cs : List Value) (w' : World) : Prop := w.grownBy w' (some g) ∧ w'.heap[g]? = some (.cells cs.toArray E (0, 0))
theorem insIn_set {w : World} {g : Nat} {E : TypeId} {cur cs : List Value} (h : w.heap[g]? = some (.cells cur.toArray E (0, 0))) : InsIn w g E cs (w.setRow g cs.toArray) :=
  ⟨⟨rfl, rfl, rfl, by rw [size_setRow]; exact Nat.le_refl _, fun j _ hj => setRow_other _ _ _ _ (fun e => hj (by rw [e]))⟩, setRow_heap _ _ _ _ _ _ h⟩
theorem insIn_trans {w w1 w2 : World} {g : Nat} {E : TypeId} {cs cs' : List Value} (h : InsIn w g E cs w1) (k : InsIn w1 g E cs' w2) : InsIn w g E cs' w2 := ⟨h.1.trans k.1, k.2⟩
theorem insIn_drew {w : World} {g : Nat} {E : TypeId} {cs : List Value} (h : w.heap[g]? = some (.cells cs.toArray E (0, 0))) : InsIn w g E cs w.drew := ⟨⟨rfl, rfl, rfl, Nat.le_refl _, fun _ _ _ => rfl⟩, h⟩

theorem info_R : (Tryz.prog.info? 247).map (fun i => (i.zero, i.size, i.bytes)) = some (some (.agg #[.int .i64 0, .slice none 0 0]), 2, 32) := by kernel_rfl
theorem size_R : (Tryz.prog.info? 247).map (·.size) = some 2 := by kernel_rfl
theorem sizeOf_R (w : World) : (sizeOf 247).run Tryz.prog w = .ok 2 w := by kernel_rfl
theorem ov_R (w : World) (g vb a b c d n m : Nat) (hne : vb ≠ g) (cs ys : Array Value) (hg : w.heap[g]? = some (.cells cs 247 (0, 0))) (hv : w.heap[vb]? = some (.cells ys 247 (0, 0))) (h0 : 0 < cs.size) :
    (callFunc 191 #[.slice (some ⟨vb, a, none⟩) n c, .slice (some ⟨g, b, none⟩) m d]).run Tryz.prog w = .ok (.value (.bool false)) w := by
  rw [run_callFunc_extern Tryz.func191 (by kernel_rfl) (by kernel_rfl) (by kernel_rfl) (e := Extern.SlicesOverlaps.overlaps #[248, 248] #[4]) (by kernel_rfl),
    Lib.run_overlaps_apart w 248 4 247 Tryz.underlying248 2 sizeOf_R ⟨vb, a, none⟩ ⟨g, b, none⟩ n c m d hne 247 247 ys.size cs.size (by unfold World.shape?; rw [hv]) (by unfold World.shape?; rw [hg]) (by omega) (frozen_of_row _ _ _ _ _ hv) (frozen_of_row _ _ _ _ _ hv)]
  rfl
set_option maxHeartbeats 4000000 in
set_option maxRecDepth 100000 in
theorem insS_R (w : World) (g n c i vb : Nat) (cur ys : List Value) (hg : w.heap[g]? = some (.cells cur.toArray 247 (0, 0))) (hl : cur.length = c * 2) (hc : n + 1 ≤ c) (hi : i < n) (hcm : c ≤ maxLen) (hvb : vb ≠ g) (hv : w.heap[vb]? = some (.cells ys.toArray 247 (0, 0))) (hy : ys.length = 2) (h1 : ∀ v ∈ cur.take (n * 2), v.oneCell' = true) (h2 : ∀ v ∈ ys, v.oneCell' = true) :
    Calls Tryz.prog 185 #[.slice (some ⟨g, 0, none⟩) n c, .int .i64 i, .slice (some ⟨vb, 0, none⟩) 1 1] w fun e w' => e = .returned (.slice (some ⟨g, 0, none⟩) (n + 1) c) ∧ Hid (InsIn w g 247 (insC cur ys n i 2) w') := by
  have mixed : Tryz.prog.follows .mixedOrders = true := by kernel_rfl
  have hcm' : c ≤ 9223372036854775807 := by unfold maxLen at hcm; omega
  have hov := fun W (h : W.heap[g]? = some (.cells cur.toArray 247 (0, 0))) (h' : W.heap[vb]? = some (.cells ys.toArray 247 (0, 0))) b n c m d => ov_R W g vb 0 b c d n m hvb cur.toArray ys.toArray h h' (by simp; omega)
  have hov := hov w hg hv
  have q1 : ¬ ((i : Int) = (n : Int)) := by omega
  have q2 : ¬ ((c : Int) < (n : Int) + 1) := by omega
  have q3 : (0 : Int) ≤ (i : Int) + 1 := by omega
  have q4 : ¬ (c = i + 1) := by omega
  have q5 : ¬ (c = i) := by omega
  have q6 : (i : Int) ≤ (n : Int) := by omega
  have q7 : (n : Int) + 1 ≤ (c : Int) := by omega
  have q8 : IntKind.i64.wrap ((i : Int) + 1) = (i : Int) + 1 := by rw [IntKind.wrap_i64]; omega
  have q9 : IntKind.i64.wrap ((n : Int) + 1) = (n : Int) + 1 := by rw [IntKind.wrap_i64]; omega
  have q10 : ((i : Int) + 1).toNat = i + 1 := by omega
  have q11 : ((n : Int) + 1).toNat = n + 1 := by omega
  have q12 : (i : Int) ≤ (n : Int) + 1 := by omega
  have q13 : (i : Int) + 1 ≤ (n : Int) + 1 := by omega
  have q14 : (c : Int) ≤ 9223372036854775807 := by omega
  have hik : (i + 1) * 2 = i * 2 + 2 := by omega
  have hni : (n - i) * 2 = n * 2 - i * 2 := by omega
  have hnk : (n + 1) * 2 ≤ c * 2 := by omega
  obtain ⟨X, eX⟩ : ∃ X, X = (cur.drop (i * 2)).take ((n - i) * 2) := ⟨_, rfl⟩
  have lX : X.length = (n - i) * 2 := by rw [eX, List.length_take, List.length_drop]; omega
  obtain ⟨A1, e1⟩ : ∃ A1, A1 = (cur.take ((i + 1) * 2) ++ X ++ cur.drop ((i + 1) * 2 + X.length)) := ⟨_, rfl⟩
  have l1 : A1.length = c * 2 := by rw [e1]; simp only [List.length_append, List.length_take, List.length_drop, lX]; omega
  have e2 : A1.take (i * 2) ++ ys ++ A1.drop (i * 2 + ys.length) = insC cur ys n i 2 := by rw [e1, eX]; exact insC_steps (by omega) hc hl hy
  have C1 : Hid (∀ ty dl dc sl sc, Nat.min sl dl = n - i → (Builtin.copy_ #[248, 248] ty #[.slice (some ⟨g, (i + 1) * 2, none⟩) dl dc, .slice (some ⟨g, i * 2, none⟩) sl sc]).run Tryz.prog w.drew = .ok (goInt ((n - i : Nat) : Int)) (w.drew.setRow g A1.toArray)) := Lib.hid (fun ty dl dc sl sc hm => by
    have := run_copyK w.drew 248 248 ty 247 2 g ((i + 1) * 2) dl dc ⟨g, i * 2, none⟩ sl sc cur.toArray 247 X Tryz.underlying248 size_R (hd_drew hg) (n - i) hm lX (fun j v hj => by
      rw [addr_add, cell_of_row _ _ _ _ _ _ (hd_drew hg)]
      rw [eX, List.getElem?_take] at hj
      split at hj
      · rw [List.getElem?_drop] at hj
        rw [List.getElem?_toArray]; exact hj
      · cases hj) (by rw [lX]; simp only [List.size_toArray]; omega) (fun v hv => h1 v (by rw [eX, hni, ← List.drop_take] at hv; exact List.mem_of_mem_drop hv))
    rw [e1]
    exact this)
  have G1 : (w.drew.setRow g A1.toArray).heap[g]? = some (.cells A1.toArray 247 (0, 0)) := setRow_heap _ _ _ _ _ _ (hd_drew hg)
  have C2 : Hid (∀ ty dl dc sc, Nat.min 1 dl = 1 → (Builtin.copy_ #[248, 248] ty #[.slice (some ⟨g, i * 2, none⟩) dl dc, .slice (some ⟨vb, 0, none⟩) 1 sc]).run Tryz.prog (w.drew.setRow g A1.toArray) = .ok (goInt 1) ((w.drew.setRow g A1.toArray).setRow g (insC cur ys n i 2).toArray)) := Lib.hid (fun ty dl dc sc hm => by
    have := run_copyK (w.drew.setRow g A1.toArray) 248 248 ty 247 2 g (i * 2) dl dc ⟨vb, 0, none⟩ 1 sc A1.toArray 247 ys Tryz.underlying248 size_R G1 1 hm (by omega) (fun j v hj => by
      rw [addr_add, Nat.zero_add, cell_of_row _ _ _ _ _ _ ((setRow_other _ _ _ _ hvb).trans (hd_drew hv)), List.getElem?_toArray]; exact hj) (by simp only [List.size_toArray]; omega) h2
    rw [← e2]
    exact this)
  have F : Hid (InsIn w g 247 (insC cur ys n i 2) ((w.drew.setRow g A1.toArray).setRow g (insC cur ys n i 2).toArray)) := insIn_trans (insIn_trans (insIn_drew hg) (insIn_set (hd_drew hg))) (insIn_set G1)
  clear eX lX e1 l1 e2 G1 hik hni hnk
  have HX := Lib.hid (And.intro hl (And.intro hc (And.intro hi (And.intro hy (And.intro h1 h2)))))
  clear hg hv hl hc hy h1 h2 hcm
  go_enter Tryz.func185, Tryz.ntmps185
  go_wp2_with (simp only [hov])
  refine wp_region_held_drew (S := fun _ => True) (by kernel_rfl) trivial (fun hHeld => ?_)
  clear hHeld
  refine wpAnyH_take (i := 0) (oi := ⟨some 69, _, _, _, _, _⟩) (v := ?_) rfl (by kernel_rfl) (by kernel_rfl) (by kernel_rfl) (fun _ _ _ h => h) (Or.inl ⟨by kernel_rfl, ?_⟩) trivial ?_
  rotate_left
  · (intro w hSw; go_simp; try with_reducible rfl)
  (repeat (first | simp only [Act.put] | simp only [List.setIfInBounds_toArray] | simp only [List.set_cons_succ] | simp only [List.set_cons_zero]))
  refine wpAnyH_take (i := 1) (oi := ⟨some 70, _, _, _, _, _⟩) (v := ?_) rfl (by kernel_rfl) (by kernel_rfl) (by kernel_rfl) (fun _ _ _ h => h) (Or.inl ⟨by kernel_rfl, ?_⟩) trivial ?_
  rotate_left
  · (intro w hSw; go_simp; try with_reducible rfl)
  (repeat (first | simp only [Act.put] | simp only [List.setIfInBounds_toArray] | simp only [List.set_cons_succ] | simp only [List.set_cons_zero]))
  refine wpAnyH_take (i := 2) (oi := ⟨some 71, _, _, _, _, _⟩) (v := ?_) rfl (by kernel_rfl) (by kernel_rfl) (by kernel_rfl) (fun _ _ _ h => h) (Or.inl ⟨by kernel_rfl, ?_⟩) trivial ?_
  rotate_left
  · (intro w hSw; go_simp; try with_reducible rfl)
  (repeat (first | simp only [Act.put] | simp only [List.setIfInBounds_toArray] | simp only [List.set_cons_succ] | simp only [List.set_cons_zero]))
  refine wpAnyH_take (i := 3) (oi := ⟨some 72, _, _, _, _, _⟩) (v := ?_) rfl (by kernel_rfl) (by kernel_rfl) (by kernel_rfl) (fun _ _ _ h => h) (Or.inl ⟨by kernel_rfl, ?_⟩) trivial ?_
  rotate_left
  · (intro w hSw; go_simp; try with_reducible rfl)
  (repeat (first | simp only [Act.put] | simp only [List.setIfInBounds_toArray] | simp only [List.set_cons_succ] | simp only [List.set_cons_zero]))
  refine wpAnyH_take (i := 4) (oi := ⟨some 73, _, _, _, _, _⟩) (v := ?_) rfl (by kernel_rfl) (by kernel_rfl) (by kernel_rfl) (fun _ _ _ h => h) (Or.inl ⟨by kernel_rfl, ?_⟩) trivial ?_
  rotate_left
  · (intro w hSw; go_simp; try with_reducible rfl)
  (repeat (first | simp only [Act.put] | simp only [List.setIfInBounds_toArray] | simp only [List.set_cons_succ] | simp only [List.set_cons_zero]))
  refine wpAnyH_take (i := 5) (oi := ⟨some 74, _, _, _, _, _⟩) (v := ?_) rfl (by kernel_rfl) (by kernel_rfl) (by kernel_rfl) (fun _ _ _ h => h) (Or.inl ⟨by kernel_rfl, ?_⟩) trivial ?_
  rotate_left
  · (intro w hSw; go_simp; try with_reducible rfl)
  (repeat (first | simp only [Act.put] | simp only [List.setIfInBounds_toArray] | simp only [List.set_cons_succ] | simp only [List.set_cons_zero]))
  refine wpAnyH_take (i := 6) (oi := ⟨some 75, _, _, _, _, _⟩) (v := ?_) rfl (by kernel_rfl) (by kernel_rfl) (by kernel_rfl) (fun _ _ _ h => h) (Or.inl ⟨by kernel_rfl, ?_⟩) trivial ?_
  rotate_left
  · (intro w hSw; go_simp; try with_reducible rfl)
  (repeat (first | simp only [Act.put] | simp only [List.setIfInBounds_toArray] | simp only [List.set_cons_succ] | simp only [List.set_cons_zero]))
  refine wpAnyH_take (i := 7) (oi := ⟨some 76, _, _, _, _, _⟩) (v := ?_) rfl (by kernel_rfl) (by kernel_rfl) (by kernel_rfl) (fun _ _ _ h => h) (Or.inl ⟨by kernel_rfl, ?_⟩) trivial ?_
  rotate_left
  · (intro w hSw; go_simp; try with_reducible rfl)
  (repeat (first | simp only [Act.put] | simp only [List.setIfInBounds_toArray] | simp only [List.set_cons_succ] | simp only [List.set_cons_zero]))
  refine wpAnyH_ready (rs := [8]) (by kernel_rfl) (by simp) ?_
  refine AllReadyH.cons (o := ⟨some 77, _, _, _, _, _⟩) rfl (fun K hK => ?_) AllReadyH.nil
  refine step_copy_runI rfl _ _ 248 248 rfl _ _ rfl rfl (C1.out _ _ _ _ _ (by simp only [Nat.min_def]; split <;> omega)) ?_
  refine hK.out _ _ trivial (fun hHeld => ?_)
  clear hK K hHeld
  (repeat (first | simp only [Act.put] | simp only [List.setIfInBounds_toArray] | simp only [List.set_cons_succ] | simp only [List.set_cons_zero]))
  refine wpAnyH_done (by kernel_rfl) ?_ _
  clear C1
  go_wp2_with fail
  rw [C2.out _ _ _ _ (by simp only [Nat.min_def]; split <;> omega)]
  go_wp2_with fail
  go_ret
  exact ⟨rfl, F.out⟩
set_option maxHeartbeats 4000000 in
set_option maxRecDepth 100000 in
theorem insA_R (w : World) (base n : Nat) (v : Value) (xs ys : List Value) (vb : Nat) (hown : w.ownsRow base 247 2 v n xs) (hb : base ≤ w.heap.size) (hn : n ≤ 1000) (hv : w.heap[vb]? = some (.cells ys.toArray 247 (0, 0))) (hy : ys.length = 2) (h2 : ∀ v ∈ ys, v.oneCell' = true) :
    Calls Tryz.prog 185 #[v, .int .i64 n, .slice (some ⟨vb, 0, none⟩) 1 1] w fun e w' => ∃ v', e = .returned v' ∧ Hid (w'.ownsRow base 247 2 v' (n + 1) (xs ++ ys) ∧ w.grownBy w' v.ownBlock ∧ (v'.ownBlock = v.ownBlock ∨ v'.ownBlock = some w.heap.size)) := by
  obtain ⟨i0, hi0, hz0, hz1, hz2⟩ := info_parts info_R
  have HO := Lib.hid hown
  have hnw : Hid (∀ (j : Nat) (u : Value), ys[j]? = some u → w.cell? ((⟨vb, 0, none⟩ : Addr).add j) = some u) := Lib.hid (fun j u hj => by
    rw [addr_add, Nat.zero_add, cell_of_row _ _ _ _ _ _ hv, List.getElem?_toArray]; exact hj)
  have q1 : IntKind.i64.wrap ((n : Int) + 1) = (n : Int) + 1 := by rw [IntKind.wrap_i64]; omega
  rcases hown.2 with ⟨rfl, rfl⟩ | ⟨g, c, cur, rfl, _, _, hc, hm, _, _⟩
  · clear hown hv
    go_enter Tryz.func185, Tryz.ntmps185
    go_wp2_with (at_builtin; refine wpList_append_own_at _ rfl _ _ 248 rfl base 247 i0 (.agg #[.int .i64 0, .slice none 0 0]) 2 32 Tryz.underlying248 hi0 hz0 hz1 hz2 rfl (by decide) _ _ _ rfl HO.out ⟨vb, 0, none⟩ 1 1 ys rfl (by omega) hnw.out h2 (by unfold maxLen; omega) (by omega) hb ?_)
    intro v1 w1 k1 k2 _ k3
    have HR : Hid (w1.ownsRow base 247 2 v1 (0 + 1) (xs ++ ys) ∧ w.grownBy w1 (Value.slice none 0 0).ownBlock ∧ (v1.ownBlock = (Value.slice none 0 0).ownBlock ∨ v1.ownBlock = some w.heap.size)) := ⟨k1, k2, k3⟩
    clear k1 k2 k3
    go_wp2_with fail
    go_ret
    exact ⟨_, rfl, HR.out⟩
  · have hcm : c ≤ 9223372036854775807 := by unfold maxLen at hm; omega
    have q2 : (n : Int) ≤ (c : Int) := by omega
    have q3 : (c : Int) ≤ 9223372036854775807 := by omega
    clear hown hv hm
    by_cases hcn : c = n
    · subst hcn
      go_enter Tryz.func185, Tryz.ntmps185
      go_wp2_with (at_builtin; refine wpList_append_own_at _ rfl _ _ 248 rfl base 247 i0 (.agg #[.int .i64 0, .slice none 0 0]) 2 32 Tryz.underlying248 hi0 hz0 hz1 hz2 rfl (by decide) _ _ _ rfl HO.out ⟨vb, 0, none⟩ 1 1 ys rfl (by omega) hnw.out h2 (by unfold maxLen; omega) (by omega) hb ?_)
      intro v1 w1 k1 k2 _ k3
      have HR : Hid (w1.ownsRow base 247 2 v1 (c + 1) (xs ++ ys) ∧ w.grownBy w1 (Value.slice (some ⟨g, 0, none⟩) c c).ownBlock ∧ (v1.ownBlock = (Value.slice (some ⟨g, 0, none⟩) c c).ownBlock ∨ v1.ownBlock = some w.heap.size)) := ⟨k1, k2, k3⟩
      clear k1 k2 k3
      go_wp2_with fail
      go_ret
      exact ⟨_, rfl, HR.out⟩
    · go_enter Tryz.func185, Tryz.ntmps185
      go_wp2_with (at_builtin; refine wpList_append_own_at _ rfl _ _ 248 rfl base 247 i0 (.agg #[.int .i64 0, .slice none 0 0]) 2 32 Tryz.underlying248 hi0 hz0 hz1 hz2 rfl (by decide) _ _ _ rfl HO.out ⟨vb, 0, none⟩ 1 1 ys rfl (by omega) hnw.out h2 (by unfold maxLen; omega) (by omega) hb ?_)
      intro v1 w1 k1 k2 _ k3
      have HR : Hid (w1.ownsRow base 247 2 v1 (n + 1) (xs ++ ys) ∧ w.grownBy w1 (Value.slice (some ⟨g, 0, none⟩) n c).ownBlock ∧ (v1.ownBlock = (Value.slice (some ⟨g, 0, none⟩) n c).ownBlock ∨ v1.ownBlock = some w.heap.size)) := ⟨k1, k2, k3⟩
      clear k1 k2 k3
      go_wp2_with fail
      go_ret
      exact ⟨_, rfl, HR.out⟩
set_option maxHeartbeats 4000000 in
set_option maxRecDepth 100000 in
theorem insG_R (w : World) (g n i vb : Nat) (xs ys : List Value) (hg : w.heap[g]? = some (.cells xs.toArray 247 (0, 0))) (hl : xs.length = n * 2) (hn : n ≤ 1000) (hi : i < n) (hv : w.heap[vb]? = some (.cells ys.toArray 247 (0, 0))) (hy : ys.length = 2) (h1 : ∀ v ∈ xs, v.oneCell' = true) (h2 : ∀ v ∈ ys, v.oneCell' = true) :
    Calls Tryz.prog 185 #[.slice (some ⟨g, 0, none⟩) n n, .int .i64 i, .slice (some ⟨vb, 0, none⟩) 1 1] w fun e w' => ∃ v', e = .returned v' ∧ Hid (w'.ownsRow w.heap.size 247 2 v' (n + 1) (xs.take (i * 2) ++ ys ++ xs.drop (i * 2)) ∧ Below w.heap.size w w' ∧ v'.ownBlock = some w.heap.size) := by
  have mixed : Tryz.prog.follows .mixedOrders = true := by kernel_rfl
  obtain ⟨i0, hi0, hz0, hz1, hz2⟩ := info_parts info_R
  have hgl := blk_lt hg
  have hvl := blk_lt hv
  have q0 : (n : Int) < (n : Int) + 1 := by omega
  have q1 : ¬ ((i : Int) = (n : Int)) := by omega
  have q3 : (0 : Int) ≤ (i : Int) + 1 := by omega
  have q5 : ¬ (n = i) := by omega
  have q6 : (i : Int) ≤ (n : Int) := by omega
  have q8 : IntKind.i64.wrap ((i : Int) + 1) = (i : Int) + 1 := by rw [IntKind.wrap_i64]; omega
  have q9 : IntKind.i64.wrap ((n : Int) + 1) = (n : Int) + 1 := by rw [IntKind.wrap_i64]; omega
  have q10 : ((i : Int) + 1).toNat = i + 1 := by omega
  have q12 : (i : Int) ≤ (n : Int) + 1 := by omega
  have q13 : (i : Int) + 1 ≤ (n : Int) + 1 := by omega
  have q14 : (n : Int) ≤ 9223372036854775807 := by omega
  have q15 : IntKind.i64.wrap ((n : Int) + 1 - (i : Int)) = ((n + 1 - i : Nat) : Int) := by rw [IntKind.wrap_i64]; omega
  have hik : (i + 1) * 2 = i * 2 + 2 := by omega
  have hxt : (xs.take (i * 2)).length = i * 2 := by rw [List.length_take]; omega
  have hold : (Builtin.firstCells i0.size i (.slice (some ⟨g, 0, none⟩) i n)).run Tryz.prog w.drew = .ok (xs.take (i * 2)).toArray w.drew := by
    rw [hz1]
    exact run_firstCells_some w.drew 2 i ⟨g, 0, none⟩ i n (xs.take (i * 2)) hxt (fun j v hj => by
      rw [addr_add, Nat.zero_add, cell_of_row _ _ _ _ _ _ (hd_drew hg), List.getElem?_toArray]
      rw [List.getElem?_take] at hj
      split at hj
      · exact hj
      · cases hj)
  have hin : i + (n + 1 - i) = n + 1 := by omega
  have hrz : ∀ ty, (Builtin.append_ #[248, 3] ty #[.slice (some ⟨g, 0, none⟩) i n, .int .i64 ((n + 1 - i : Nat) : Int)]).run Tryz.prog w = .ok (.slice (some ⟨w.heap.size, 0, none⟩) (n + 1) (grownCap w (n + 1) n 247)) (w.drew.alloc (.cells ((xs.take (i * 2)).toArray ++ Builtin.zeroCells ((.agg #[.int .i64 0, .slice none 0 0]) : Value).cells (n + 1 - i) ++ Builtin.zeroCells ((.agg #[.int .i64 0, .slice none 0 0]) : Value).cells (grownCap w (n + 1) n 247 - (n + 1))) 247)) := fun ty => by
    have h := Lib.run_append_grow_zeros w 248 3 ty 247 i0 _ .i64 .i64 Tryz.underlying248 Tryz.underlying3 hi0 hz0 (some ⟨g, 0, none⟩) i n (xs.take (i * 2)) hold (n + 1 - i) (by omega) (by omega) (by omega) (by omega) (by rw [hz2]; omega) (by rw [hz2, hin]; exact growslice_fits (by omega) (by omega))
    rw [hin] at h
    exact h
  obtain ⟨G, hG⟩ : ∃ G, G = grownCap w (n + 1) n 247 := ⟨_, rfl⟩
  have hGn : n + 1 ≤ G := by rw [hG]; exact grownCap_ge w _ _ _
  have hGm : G ≤ maxLen := by rw [hG]; exact grownCap_le_maxLen w (n + 1) n 247 (by unfold maxLen; omega)
  have hG63 : (G : Int) ≤ 9223372036854775807 := by unfold maxLen at hGm; omega
  rw [← hG] at hrz
  obtain ⟨R, hR⟩ : ∃ R : List Value, R.toArray = (xs.take (i * 2)).toArray ++ Builtin.zeroCells ((.agg #[.int .i64 0, .slice none 0 0]) : Value).cells (n + 1 - i) ++ Builtin.zeroCells ((.agg #[.int .i64 0, .slice none 0 0]) : Value).cells (G - (n + 1)) := ⟨_, Array.toArray_toList⟩
  rw [← hR] at hrz
  have lR : R.length = G * 2 := by
    have := congrArg Array.size hR
    simp only [List.size_toArray, Array.size_append, hxt] at this
    simp [Builtin.zeroCells, Value.cells] at this
    omega
  have tR : R.take (i * 2) = xs.take (i * 2) := by
    have := congrArg Array.toList hR
    rw [Array.toList_append, Array.toList_append] at this
    rw [show R = R.toArray.toList from rfl, this, List.append_assoc, List.take_append_of_le_length (by show _ ≤ (xs.take (i * 2)).length; omega)]
    exact List.take_of_length_le (by show (xs.take (i * 2)).length ≤ _; omega)
  obtain ⟨R1, e1⟩ : ∃ R1, R1 = R.take (i * 2) ++ ys ++ R.drop (i * 2 + ys.length) := ⟨_, rfl⟩
  obtain ⟨R2, e2⟩ : ∃ R2, R2 = R1.take ((i + 1) * 2) ++ xs.drop (i * 2) ++ R1.drop ((i + 1) * 2 + (xs.drop (i * 2)).length) := ⟨_, rfl⟩
  obtain ⟨l1, l2, t2⟩ := grow_steps tR lR hGn hl hy (by omega) e1 e2
  have HW : Hid (∀ W, W = (w.alloc (.cells R.toArray 247)).drew → W.heap[w.heap.size]? = some (.cells R.toArray 247 (0, 0)) ∧ W.heap[vb]? = some (.cells ys.toArray 247 (0, 0)) ∧ W.heap[g]? = some (.cells xs.toArray 247 (0, 0)) ∧ Below w.heap.size w W) := Lib.hid (fun W hW => by
    rw [hW]
    exact ⟨hd_drew (hd_last rfl), hd_drew (hd_prev hvl hv), hd_drew (hd_prev hgl hg), ((Below.refl _ _).alloc (Nat.le_refl _) _).drew⟩)
  have ldx : (xs.drop (i * 2)).length = (n - i) * 2 := by rw [List.length_drop, hl]; omega
  have C1 : Hid (∀ W, W.heap[w.heap.size]? = some (.cells R.toArray 247 (0, 0)) → W.heap[vb]? = some (.cells ys.toArray 247 (0, 0)) → ∀ ty dl dc sc, Nat.min 1 dl = 1 → (Builtin.copy_ #[248, 248] ty #[.slice (some ⟨w.heap.size, i * 2, none⟩) dl dc, .slice (some ⟨vb, 0, none⟩) 1 sc]).run Tryz.prog W = .ok (goInt 1) (W.setRow w.heap.size R1.toArray)) := Lib.hid (fun W k1 k2 ty dl dc sc hm => by
    have := run_copyK W 248 248 ty 247 2 w.heap.size (i * 2) dl dc ⟨vb, 0, none⟩ 1 sc R.toArray 247 ys Tryz.underlying248 size_R k1 1 hm (by omega) (fun j v hj => by
      rw [addr_add, Nat.zero_add, cell_of_row _ _ _ _ _ _ k2, List.getElem?_toArray]; exact hj) (by simp only [List.size_toArray]; omega) h2
    rw [e1]
    exact this)
  have C2 : Hid (∀ W, W.heap[w.heap.size]? = some (.cells R1.toArray 247 (0, 0)) → W.heap[g]? = some (.cells xs.toArray 247 (0, 0)) → ∀ ty dl dc sl sc, Nat.min sl dl = n - i → (Builtin.copy_ #[248, 248] ty #[.slice (some ⟨w.heap.size, (i + 1) * 2, none⟩) dl dc, .slice (some ⟨g, i * 2, none⟩) sl sc]).run Tryz.prog W = .ok (goInt ((n - i : Nat) : Int)) (W.setRow w.heap.size R2.toArray)) := Lib.hid (fun W k1 k2 ty dl dc sl sc hm => by
    have := run_copyK W 248 248 ty 247 2 w.heap.size ((i + 1) * 2) dl dc ⟨g, i * 2, none⟩ sl sc R1.toArray 247 (xs.drop (i * 2)) Tryz.underlying248 size_R k1 (n - i) hm ldx (fun j v hj => by
      rw [addr_add, cell_of_row _ _ _ _ _ _ k2, List.getElem?_toArray]
      rw [List.getElem?_drop] at hj
      exact hj) (by simp only [List.size_toArray]; omega) (fun v hv => h1 v (List.mem_of_mem_drop hv))
    rw [e2]
    exact this)
  have HE := Lib.hid (And.intro l2 (And.intro t2 (And.intro hGn hGm)))
  have HX := Lib.hid (And.intro hgl hy)
  have HXL := Lib.hid (show (xs.take (i * 2) ++ ys ++ xs.drop (i * 2)).length = (n + 1) * 2 by simp only [List.length_append, hxt, hy, ldx]; omega)
  have q16 : ¬ (G = i) := by omega
  have q17 : ¬ (G = i + 1) := by omega
  clear e1 e2 l1 l2 t2 tR lR hR hG hold hin hg hv hl hy hz0 hz1 hz2 hi0 hGn hGm ldx hxt h1 h2 hik
  go_enter Tryz.func185, Tryz.ntmps185
  go_wp2_with (at_builtin; refine Lib.wpList_append_run _ rfl _ _ _ _ rfl _ _ rfl rfl _ _ (hrz _) ?_)
  clear hrz
  generalize hW1 : World.drew (w.alloc (.cells R.toArray 247)) = W1
  obtain ⟨k1, k2, k3, k4⟩ := HW.out W1 hW1.symm
  have K := Lib.hid (And.intro k1 (And.intro k2 (And.intro k3 k4)))
  clear hW1 HW k1 k2 k3 k4
  rw [C1.out W1 K.out.1 K.out.2.1 _ _ _ _ (by simp only [Nat.min_def]; split <;> omega)]
  go_wp2_with fail
  refine wp_region_held_drew (S := fun _ => True) (by kernel_rfl) trivial (fun hHeld => ?_)
  clear hHeld
  refine wpAnyH_take (i := 0) (oi := ⟨some 46, _, _, _, _, _⟩) (v := ?_) rfl (by kernel_rfl) (by kernel_rfl) (by kernel_rfl) (fun _ _ _ h => h) (Or.inl ⟨by kernel_rfl, ?_⟩) trivial ?_
  rotate_left
  · (intro w hSw; go_simp; try with_reducible rfl)
  (repeat (first | simp only [Act.put] | simp only [List.setIfInBounds_toArray] | simp only [List.set_cons_succ] | simp only [List.set_cons_zero]))
  refine wpAnyH_take (i := 1) (oi := ⟨some 47, _, _, _, _, _⟩) (v := ?_) rfl (by kernel_rfl) (by kernel_rfl) (by kernel_rfl) (fun _ _ _ h => h) (Or.inl ⟨by kernel_rfl, ?_⟩) trivial ?_
  rotate_left
  · (intro w hSw; go_simp; try with_reducible rfl)
  (repeat (first | simp only [Act.put] | simp only [List.setIfInBounds_toArray] | simp only [List.set_cons_succ] | simp only [List.set_cons_zero]))
  refine wpAnyH_take (i := 2) (oi := ⟨some 48, _, _, _, _, _⟩) (v := ?_) rfl (by kernel_rfl) (by kernel_rfl) (by kernel_rfl) (fun _ _ _ h => h) (Or.inl ⟨by kernel_rfl, ?_⟩) trivial ?_
  rotate_left
  · (intro w hSw; go_simp; try with_reducible rfl)
  (repeat (first | simp only [Act.put] | simp only [List.setIfInBounds_toArray] | simp only [List.set_cons_succ] | simp only [List.set_cons_zero]))
  refine wpAnyH_take (i := 3) (oi := ⟨some 49, _, _, _, _, _⟩) (v := ?_) rfl (by kernel_rfl) (by kernel_rfl) (by kernel_rfl) (fun _ _ _ h => h) (Or.inl ⟨by kernel_rfl, ?_⟩) trivial ?_
  rotate_left
  · (intro w hSw; go_simp; try with_reducible rfl)
  (repeat (first | simp only [Act.put] | simp only [List.setIfInBounds_toArray] | simp only [List.set_cons_succ] | simp only [List.set_cons_zero]))
  refine wpAnyH_take (i := 4) (oi := ⟨some 50, _, _, _, _, _⟩) (v := ?_) rfl (by kernel_rfl) (by kernel_rfl) (by kernel_rfl) (fun _ _ _ h => h) (Or.inl ⟨by kernel_rfl, ?_⟩) trivial ?_
  rotate_left
  · (intro w hSw; go_simp; try with_reducible rfl)
  (repeat (first | simp only [Act.put] | simp only [List.setIfInBounds_toArray] | simp only [List.set_cons_succ] | simp only [List.set_cons_zero]))
  refine wpAnyH_take (i := 5) (oi := ⟨some 51, _, _, _, _, _⟩) (v := ?_) rfl (by kernel_rfl) (by kernel_rfl) (by kernel_rfl) (fun _ _ _ h => h) (Or.inl ⟨by kernel_rfl, ?_⟩) trivial ?_
  rotate_left
  · (intro w hSw; go_simp; try with_reducible rfl)
  (repeat (first | simp only [Act.put] | simp only [List.setIfInBounds_toArray] | simp only [List.set_cons_succ] | simp only [List.set_cons_zero]))
  refine wpAnyH_take (i := 6) (oi := ⟨some 52, _, _, _, _, _⟩) (v := ?_) rfl (by kernel_rfl) (by kernel_rfl) (by kernel_rfl) (fun _ _ _ h => h) (Or.inl ⟨by kernel_rfl, ?_⟩) trivial ?_
  rotate_left
  · (intro w hSw; go_simp; try with_reducible rfl)
  (repeat (first | simp only [Act.put] | simp only [List.setIfInBounds_toArray] | simp only [List.set_cons_succ] | simp only [List.set_cons_zero]))
  refine wpAnyH_take (i := 7) (oi := ⟨some 53, _, _, _, _, _⟩) (v := ?_) rfl (by kernel_rfl) (by kernel_rfl) (by kernel_rfl) (fun _ _ _ h => h) (Or.inl ⟨by kernel_rfl, ?_⟩) trivial ?_
  rotate_left
  · (intro w hSw; go_simp; try with_reducible rfl)
  (repeat (first | simp only [Act.put] | simp only [List.setIfInBounds_toArray] | simp only [List.set_cons_succ] | simp only [List.set_cons_zero]))
  have G1 : (W1.setRow w.heap.size R1.toArray).drew.heap[w.heap.size]? = some (.cells R1.toArray 247 (0, 0)) := hd_drew (setRow_heap _ _ _ _ _ _ K.out.1)
  have G2 : (W1.setRow w.heap.size R1.toArray).drew.heap[g]? = some (.cells xs.toArray 247 (0, 0)) := hd_drew ((setRow_other _ _ _ _ (by have := HX.out.1; omega)).trans K.out.2.2.1)
  refine wpAnyH_ready (rs := [8]) (by kernel_rfl) (by simp) ?_
  refine AllReadyH.cons (o := ⟨some 54, _, _, _, _, _⟩) rfl (fun K hK => ?_) AllReadyH.nil
  refine step_copy_runI rfl _ _ 248 248 rfl _ _ rfl rfl (C2.out _ G1 G2 _ _ _ _ _ (by simp only [Nat.min_def]; split <;> omega)) ?_
  refine hK.out _ _ trivial (fun hHeld => ?_)
  clear hK K hHeld
  (repeat (first | simp only [Act.put] | simp only [List.setIfInBounds_toArray] | simp only [List.set_cons_succ] | simp only [List.set_cons_zero]))
  refine wpAnyH_done (by kernel_rfl) ?_ _
  have F : Hid (((W1.setRow w.heap.size R1.toArray).drew.setRow w.heap.size R2.toArray).ownsRow w.heap.size 247 2 (.slice (some ⟨w.heap.size, 0, none⟩) (n + 1) G) (n + 1) (xs.take (i * 2) ++ ys ++ xs.drop (i * 2)) ∧ Below w.heap.size w ((W1.setRow w.heap.size R1.toArray).drew.setRow w.heap.size R2.toArray)) := by
    refine ⟨⟨HXL.out, .inr ⟨w.heap.size, G, R2.toArray, rfl, Nat.le_refl _, setRow_heap _ _ _ _ _ _ G1, HE.out.2.2.1, HE.out.2.2.2, by rw [List.size_toArray]; exact HE.out.1, HE.out.2.1⟩⟩, ?_⟩
    exact below_setRow ((below_setRow K.out.2.2.2 (Nat.le_refl _) _).drew) (Nat.le_refl _) _
  clear G1 G2 C1 C2 K HE HXL HX
  go_wp2_with fail
  go_ret
  exact ⟨_, rfl, F.out.1, F.out.2, rfl⟩
theorem ins_R (w : World) (base n i : Nat) (v : Value) (xs ys : List Value) (vb : Nat) (hown : w.ownsRow base 247 2 v n xs) (hb : base ≤ w.heap.size) (hn : n ≤ 1000) (hi : i ≤ n) (hvb : v.ownBlock ≠ some vb) (hv : w.heap[vb]? = some (.cells ys.toArray 247 (0, 0))) (hy : ys.length = 2) (h1 : ∀ u ∈ xs, u.oneCell' = true) (h2 : ∀ u ∈ ys, u.oneCell' = true) :
    Calls Tryz.prog 185 #[v, .int .i64 i, .slice (some ⟨vb, 0, none⟩) 1 1] w fun e w' => ∃ v', e = .returned v' ∧ Hid (w'.ownsRow base 247 2 v' (n + 1) (xs.take (i * 2) ++ ys ++ xs.drop (i * 2)) ∧ w.grownBy w' v.ownBlock ∧ (v'.ownBlock = v.ownBlock ∨ v'.ownBlock = some w.heap.size)) := by
  have hl := hown.1
  by_cases hin : i = n
  · subst hin
    refine (insA_R w base i v xs ys vb hown hb hn hv hy h2).mono fun e w' ⟨v', he, h⟩ => ⟨v', he, ?_⟩
    rw [List.take_of_length_le (by omega), List.drop_eq_nil_of_le (by omega), List.append_nil]
    exact h
  rcases hown.2 with ⟨_, h0⟩ | ⟨g, c, cur, rfl, hbg, hg, hc, hm, hs, ht⟩
  · omega
  have hvg : vb ≠ g := fun e => hvb (by rw [e]; rfl)
  have hll : cur.toList.length = c * 2 := by rw [Array.length_toList]; exact hs
  by_cases hcn : n + 1 ≤ c
  · refine (insS_R w g n c i vb cur.toList ys (by rw [Array.toArray_toList]; exact hg) hll hcn (by omega) hm hvg hv hy (by rw [ht]; exact h1) h2).mono fun e w' ⟨he, h⟩ => ⟨_, he, ?_⟩
    obtain ⟨k1, k2⟩ := insC_take (xs := xs) (i := i) (by omega) hcn hll hy ht
    refine ⟨⟨?_, .inr ⟨g, c, _, rfl, hbg, h.out.2, hcn, hm, by rw [List.size_toArray]; exact k1, k2⟩⟩, h.out.1, .inl rfl⟩
    simp only [List.length_append, List.length_take, List.length_drop, hy]
    omega
  · obtain rfl : c = n := by omega
    have ex : cur = xs.toArray := by rw [← ht, List.take_of_length_le (by omega), Array.toArray_toList]
    rw [ex] at hg
    refine (insG_R w g c i vb xs ys hg hl hn (by omega) hv hy h1 h2).mono fun e w' ⟨v', he, h⟩ => ⟨v', he, own_base h.out.1 hb, ?_, .inr h.out.2.2⟩
    exact ⟨h.out.2.1.os, h.out.2.1.tape, h.out.2.1.output, h.out.2.1.size, fun j hj _ => h.out.2.1.block j hj⟩

theorem info_O : (Tryz.prog.info? 38).map (fun i => (i.zero, i.size, i.bytes)) = some (some (.agg (OC ⟨0, 0, 0, 0, 0, 0⟩)), 6, 48) := by kernel_rfl
theorem size_O : (Tryz.prog.info? 38).map (·.size) = some 6 := by kernel_rfl
theorem sizeOf_O (w : World) : (sizeOf 38).run Tryz.prog w = .ok 6 w := by kernel_rfl
theorem ov_O (w : World) (g vb a b c d n m : Nat) (hne : vb ≠ g) (cs ys : Array Value) (hg : w.heap[g]? = some (.cells cs 38 (0, 0))) (hv : w.heap[vb]? = some (.cells ys 38 (0, 0))) (h0 : 0 < cs.size) :
    (callFunc 193 #[.slice (some ⟨vb, a, none⟩) n c, .slice (some ⟨g, b, none⟩) m d]).run Tryz.prog w = .ok (.value (.bool false)) w := by
  rw [run_callFunc_extern Tryz.func193 (by kernel_rfl) (by kernel_rfl) (by kernel_rfl) (e := Extern.SlicesOverlaps.overlaps #[22, 22] #[4]) (by kernel_rfl),
    Lib.run_overlaps_apart w 22 4 38 Tryz.underlying22 6 sizeOf_O ⟨vb, a, none⟩ ⟨g, b, none⟩ n c m d hne 38 38 ys.size cs.size (by unfold World.shape?; rw [hv]) (by unfold World.shape?; rw [hg]) (by omega) (frozen_of_row _ _ _ _ _ hv) (frozen_of_row _ _ _ _ _ hv)]
  rfl
set_option maxHeartbeats 4000000 in
set_option maxRecDepth 100000 in
theorem insS_O (w : World) (g n c i vb : Nat) (cur ys : List Value) (hg : w.heap[g]? = some (.cells cur.toArray 38 (0, 0))) (hl : cur.length = c * 6) (hc : n + 1 ≤ c) (hi : i < n) (hcm : c ≤ maxLen) (hvb : vb ≠ g) (hv : w.heap[vb]? = some (.cells ys.toArray 38 (0, 0))) (hy : ys.length = 6) (h1 : ∀ v ∈ cur.take (n * 6), v.oneCell' = true) (h2 : ∀ v ∈ ys, v.oneCell' = true) :
    Calls Tryz.prog 186 #[.slice (some ⟨g, 0, none⟩) n c, .int .i64 i, .slice (some ⟨vb, 0, none⟩) 1 1] w fun e w' => e = .returned (.slice (some ⟨g, 0, none⟩) (n + 1) c) ∧ Hid (InsIn w g 38 (insC cur ys n i 6) w') := by
  have mixed : Tryz.prog.follows .mixedOrders = true := by kernel_rfl
  have hcm' : c ≤ 9223372036854775807 := by unfold maxLen at hcm; omega
  have hov := fun W (h : W.heap[g]? = some (.cells cur.toArray 38 (0, 0))) (h' : W.heap[vb]? = some (.cells ys.toArray 38 (0, 0))) b n c m d => ov_O W g vb 0 b c d n m hvb cur.toArray ys.toArray h h' (by simp; omega)
  have hov := hov w hg hv
  have q1 : ¬ ((i : Int) = (n : Int)) := by omega
  have q2 : ¬ ((c : Int) < (n : Int) + 1) := by omega
  have q3 : (0 : Int) ≤ (i : Int) + 1 := by omega
  have q4 : ¬ (c = i + 1) := by omega
  have q5 : ¬ (c = i) := by omega
  have q6 : (i : Int) ≤ (n : Int) := by omega
  have q7 : (n : Int) + 1 ≤ (c : Int) := by omega
  have q8 : IntKind.i64.wrap ((i : Int) + 1) = (i : Int) + 1 := by rw [IntKind.wrap_i64]; omega
  have q9 : IntKind.i64.wrap ((n : Int) + 1) = (n : Int) + 1 := by rw [IntKind.wrap_i64]; omega
  have q10 : ((i : Int) + 1).toNat = i + 1 := by omega
  have q11 : ((n : Int) + 1).toNat = n + 1 := by omega
  have q12 : (i : Int) ≤ (n : Int) + 1 := by omega
  have q13 : (i : Int) + 1 ≤ (n : Int) + 1 := by omega
  have q14 : (c : Int) ≤ 9223372036854775807 := by omega
  have hik : (i + 1) * 6 = i * 6 + 6 := by omega
  have hni : (n - i) * 6 = n * 6 - i * 6 := by omega
  have hnk : (n + 1) * 6 ≤ c * 6 := by omega
  obtain ⟨X, eX⟩ : ∃ X, X = (cur.drop (i * 6)).take ((n - i) * 6) := ⟨_, rfl⟩
  have lX : X.length = (n - i) * 6 := by rw [eX, List.length_take, List.length_drop]; omega
  obtain ⟨A1, e1⟩ : ∃ A1, A1 = (cur.take ((i + 1) * 6) ++ X ++ cur.drop ((i + 1) * 6 + X.length)) := ⟨_, rfl⟩
  have l1 : A1.length = c * 6 := by rw [e1]; simp only [List.length_append, List.length_take, List.length_drop, lX]; omega
  have e2 : A1.take (i * 6) ++ ys ++ A1.drop (i * 6 + ys.length) = insC cur ys n i 6 := by rw [e1, eX]; exact insC_steps (by omega) hc hl hy
  have C1 : Hid (∀ ty dl dc sl sc, Nat.min sl dl = n - i → (Builtin.copy_ #[22, 22] ty #[.slice (some ⟨g, (i + 1) * 6, none⟩) dl dc, .slice (some ⟨g, i * 6, none⟩) sl sc]).run Tryz.prog w.drew = .ok (goInt ((n - i : Nat) : Int)) (w.drew.setRow g A1.toArray)) := Lib.hid (fun ty dl dc sl sc hm => by
    have := run_copyK w.drew 22 22 ty 38 6 g ((i + 1) * 6) dl dc ⟨g, i * 6, none⟩ sl sc cur.toArray 38 X Tryz.underlying22 size_O (hd_drew hg) (n - i) hm lX (fun j v hj => by
      rw [addr_add, cell_of_row _ _ _ _ _ _ (hd_drew hg)]
      rw [eX, List.getElem?_take] at hj
      split at hj
      · rw [List.getElem?_drop] at hj
        rw [List.getElem?_toArray]; exact hj
      · cases hj) (by rw [lX]; simp only [List.size_toArray]; omega) (fun v hv => h1 v (by rw [eX, hni, ← List.drop_take] at hv; exact List.mem_of_mem_drop hv))
    rw [e1]
    exact this)
  have G1 : (w.drew.setRow g A1.toArray).heap[g]? = some (.cells A1.toArray 38 (0, 0)) := setRow_heap _ _ _ _ _ _ (hd_drew hg)
  have C2 : Hid (∀ ty dl dc sc, Nat.min 1 dl = 1 → (Builtin.copy_ #[22, 22] ty #[.slice (some ⟨g, i * 6, none⟩) dl dc, .slice (some ⟨vb, 0, none⟩) 1 sc]).run Tryz.prog (w.drew.setRow g A1.toArray) = .ok (goInt 1) ((w.drew.setRow g A1.toArray).setRow g (insC cur ys n i 6).toArray)) := Lib.hid (fun ty dl dc sc hm => by
    have := run_copyK (w.drew.setRow g A1.toArray) 22 22 ty 38 6 g (i * 6) dl dc ⟨vb, 0, none⟩ 1 sc A1.toArray 38 ys Tryz.underlying22 size_O G1 1 hm (by omega) (fun j v hj => by
      rw [addr_add, Nat.zero_add, cell_of_row _ _ _ _ _ _ ((setRow_other _ _ _ _ hvb).trans (hd_drew hv)), List.getElem?_toArray]; exact hj) (by simp only [List.size_toArray]; omega) h2
    rw [← e2]
    exact this)
  have F : Hid (InsIn w g 38 (insC cur ys n i 6) ((w.drew.setRow g A1.toArray).setRow g (insC cur ys n i 6).toArray)) := insIn_trans (insIn_trans (insIn_drew hg) (insIn_set (hd_drew hg))) (insIn_set G1)
  clear eX lX e1 l1 e2 G1 hik hni hnk
  have HX := Lib.hid (And.intro hl (And.intro hc (And.intro hi (And.intro hy (And.intro h1 h2)))))
  clear hg hv hl hc hy h1 h2 hcm
  go_enter Tryz.func186, Tryz.ntmps186
  go_wp2_with (simp only [hov])
  refine wp_region_held_drew (S := fun _ => True) (by kernel_rfl) trivial (fun hHeld => ?_)
  clear hHeld
  refine wpAnyH_take (i := 0) (oi := ⟨some 69, _, _, _, _, _⟩) (v := ?_) rfl (by kernel_rfl) (by kernel_rfl) (by kernel_rfl) (fun _ _ _ h => h) (Or.inl ⟨by kernel_rfl, ?_⟩) trivial ?_
  rotate_left
  · (intro w hSw; go_simp; try with_reducible rfl)
  (repeat (first | simp only [Act.put] | simp only [List.setIfInBounds_toArray] | simp only [List.set_cons_succ] | simp only [List.set_cons_zero]))
  refine wpAnyH_take (i := 1) (oi := ⟨some 70, _, _, _, _, _⟩) (v := ?_) rfl (by kernel_rfl) (by kernel_rfl) (by kernel_rfl) (fun _ _ _ h => h) (Or.inl ⟨by kernel_rfl, ?_⟩) trivial ?_
  rotate_left
  · (intro w hSw; go_simp; try with_reducible rfl)
  (repeat (first | simp only [Act.put] | simp only [List.setIfInBounds_toArray] | simp only [List.set_cons_succ] | simp only [List.set_cons_zero]))
  refine wpAnyH_take (i := 2) (oi := ⟨some 71, _, _, _, _, _⟩) (v := ?_) rfl (by kernel_rfl) (by kernel_rfl) (by kernel_rfl) (fun _ _ _ h => h) (Or.inl ⟨by kernel_rfl, ?_⟩) trivial ?_
  rotate_left
  · (intro w hSw; go_simp; try with_reducible rfl)
  (repeat (first | simp only [Act.put] | simp only [List.setIfInBounds_toArray] | simp only [List.set_cons_succ] | simp only [List.set_cons_zero]))
  refine wpAnyH_take (i := 3) (oi := ⟨some 72, _, _, _, _, _⟩) (v := ?_) rfl (by kernel_rfl) (by kernel_rfl) (by kernel_rfl) (fun _ _ _ h => h) (Or.inl ⟨by kernel_rfl, ?_⟩) trivial ?_
  rotate_left
  · (intro w hSw; go_simp; try with_reducible rfl)
  (repeat (first | simp only [Act.put] | simp only [List.setIfInBounds_toArray] | simp only [List.set_cons_succ] | simp only [List.set_cons_zero]))
  refine wpAnyH_take (i := 4) (oi := ⟨some 73, _, _, _, _, _⟩) (v := ?_) rfl (by kernel_rfl) (by kernel_rfl) (by kernel_rfl) (fun _ _ _ h => h) (Or.inl ⟨by kernel_rfl, ?_⟩) trivial ?_
  rotate_left
  · (intro w hSw; go_simp; try with_reducible rfl)
  (repeat (first | simp only [Act.put] | simp only [List.setIfInBounds_toArray] | simp only [List.set_cons_succ] | simp only [List.set_cons_zero]))
  refine wpAnyH_take (i := 5) (oi := ⟨some 74, _, _, _, _, _⟩) (v := ?_) rfl (by kernel_rfl) (by kernel_rfl) (by kernel_rfl) (fun _ _ _ h => h) (Or.inl ⟨by kernel_rfl, ?_⟩) trivial ?_
  rotate_left
  · (intro w hSw; go_simp; try with_reducible rfl)
  (repeat (first | simp only [Act.put] | simp only [List.setIfInBounds_toArray] | simp only [List.set_cons_succ] | simp only [List.set_cons_zero]))
  refine wpAnyH_take (i := 6) (oi := ⟨some 75, _, _, _, _, _⟩) (v := ?_) rfl (by kernel_rfl) (by kernel_rfl) (by kernel_rfl) (fun _ _ _ h => h) (Or.inl ⟨by kernel_rfl, ?_⟩) trivial ?_
  rotate_left
  · (intro w hSw; go_simp; try with_reducible rfl)
  (repeat (first | simp only [Act.put] | simp only [List.setIfInBounds_toArray] | simp only [List.set_cons_succ] | simp only [List.set_cons_zero]))
  refine wpAnyH_take (i := 7) (oi := ⟨some 76, _, _, _, _, _⟩) (v := ?_) rfl (by kernel_rfl) (by kernel_rfl) (by kernel_rfl) (fun _ _ _ h => h) (Or.inl ⟨by kernel_rfl, ?_⟩) trivial ?_
  rotate_left
  · (intro w hSw; go_simp; try with_reducible rfl)
  (repeat (first | simp only [Act.put] | simp only [List.setIfInBounds_toArray] | simp only [List.set_cons_succ] | simp only [List.set_cons_zero]))
  refine wpAnyH_ready (rs := [8]) (by kernel_rfl) (by simp) ?_
  refine AllReadyH.cons (o := ⟨some 77, _, _, _, _, _⟩) rfl (fun K hK => ?_) AllReadyH.nil
  refine step_copy_runI rfl _ _ 22 22 rfl _ _ rfl rfl (C1.out _ _ _ _ _ (by simp only [Nat.min_def]; split <;> omega)) ?_
  refine hK.out _ _ trivial (fun hHeld => ?_)
  clear hK K hHeld
  (repeat (first | simp only [Act.put] | simp only [List.setIfInBounds_toArray] | simp only [List.set_cons_succ] | simp only [List.set_cons_zero]))
  refine wpAnyH_done (by kernel_rfl) ?_ _
  clear C1
  go_wp2_with fail
  rw [C2.out _ _ _ _ (by simp only [Nat.min_def]; split <;> omega)]
  go_wp2_with fail
  go_ret
  exact ⟨rfl, F.out⟩
set_option maxHeartbeats 4000000 in
set_option maxRecDepth 100000 in
theorem insA_O (w : World) (base n : Nat) (v : Value) (xs ys : List Value) (vb : Nat) (hown : w.ownsRow base 38 6 v n xs) (hb : base ≤ w.heap.size) (hn : n ≤ 1000) (hv : w.heap[vb]? = some (.cells ys.toArray 38 (0, 0))) (hy : ys.length = 6) (h2 : ∀ v ∈ ys, v.oneCell' = true) :
    Calls Tryz.prog 186 #[v, .int .i64 n, .slice (some ⟨vb, 0, none⟩) 1 1] w fun e w' => ∃ v', e = .returned v' ∧ Hid (w'.ownsRow base 38 6 v' (n + 1) (xs ++ ys) ∧ w.grownBy w' v.ownBlock ∧ (v'.ownBlock = v.ownBlock ∨ v'.ownBlock = some w.heap.size)) := by
  obtain ⟨i0, hi0, hz0, hz1, hz2⟩ := info_parts info_O
  have HO := Lib.hid hown
  have hnw : Hid (∀ (j : Nat) (u : Value), ys[j]? = some u → w.cell? ((⟨vb, 0, none⟩ : Addr).add j) = some u) := Lib.hid (fun j u hj => by
    rw [addr_add, Nat.zero_add, cell_of_row _ _ _ _ _ _ hv, List.getElem?_toArray]; exact hj)
  have q1 : IntKind.i64.wrap ((n : Int) + 1) = (n : Int) + 1 := by rw [IntKind.wrap_i64]; omega
  rcases hown.2 with ⟨rfl, rfl⟩ | ⟨g, c, cur, rfl, _, _, hc, hm, _, _⟩
  · clear hown hv
    go_enter Tryz.func186, Tryz.ntmps186
    go_wp2_with (at_builtin; refine wpList_append_own_at _ rfl _ _ 22 rfl base 38 i0 (.agg (OC ⟨0, 0, 0, 0, 0, 0⟩)) 6 48 Tryz.underlying22 hi0 hz0 hz1 hz2 rfl (by decide) _ _ _ rfl HO.out ⟨vb, 0, none⟩ 1 1 ys rfl (by omega) hnw.out h2 (by unfold maxLen; omega) (by omega) hb ?_)
    intro v1 w1 k1 k2 _ k3
    have HR : Hid (w1.ownsRow base 38 6 v1 (0 + 1) (xs ++ ys) ∧ w.grownBy w1 (Value.slice none 0 0).ownBlock ∧ (v1.ownBlock = (Value.slice none 0 0).ownBlock ∨ v1.ownBlock = some w.heap.size)) := ⟨k1, k2, k3⟩
    clear k1 k2 k3
    go_wp2_with fail
    go_ret
    exact ⟨_, rfl, HR.out⟩
  · have hcm : c ≤ 9223372036854775807 := by unfold maxLen at hm; omega
    have q2 : (n : Int) ≤ (c : Int) := by omega
    have q3 : (c : Int) ≤ 9223372036854775807 := by omega
    clear hown hv hm
    by_cases hcn : c = n
    · subst hcn
      go_enter Tryz.func186, Tryz.ntmps186
      go_wp2_with (at_builtin; refine wpList_append_own_at _ rfl _ _ 22 rfl base 38 i0 (.agg (OC ⟨0, 0, 0, 0, 0, 0⟩)) 6 48 Tryz.underlying22 hi0 hz0 hz1 hz2 rfl (by decide) _ _ _ rfl HO.out ⟨vb, 0, none⟩ 1 1 ys rfl (by omega) hnw.out h2 (by unfold maxLen; omega) (by omega) hb ?_)
      intro v1 w1 k1 k2 _ k3
      have HR : Hid (w1.ownsRow base 38 6 v1 (c + 1) (xs ++ ys) ∧ w.grownBy w1 (Value.slice (some ⟨g, 0, none⟩) c c).ownBlock ∧ (v1.ownBlock = (Value.slice (some ⟨g, 0, none⟩) c c).ownBlock ∨ v1.ownBlock = some w.heap.size)) := ⟨k1, k2, k3⟩
      clear k1 k2 k3
      go_wp2_with fail
      go_ret
      exact ⟨_, rfl, HR.out⟩
    · go_enter Tryz.func186, Tryz.ntmps186
      go_wp2_with (at_builtin; refine wpList_append_own_at _ rfl _ _ 22 rfl base 38 i0 (.agg (OC ⟨0, 0, 0, 0, 0, 0⟩)) 6 48 Tryz.underlying22 hi0 hz0 hz1 hz2 rfl (by decide) _ _ _ rfl HO.out ⟨vb, 0, none⟩ 1 1 ys rfl (by omega) hnw.out h2 (by unfold maxLen; omega) (by omega) hb ?_)
      intro v1 w1 k1 k2 _ k3
      have HR : Hid (w1.ownsRow base 38 6 v1 (n + 1) (xs ++ ys) ∧ w.grownBy w1 (Value.slice (some ⟨g, 0, none⟩) n c).ownBlock ∧ (v1.ownBlock = (Value.slice (some ⟨g, 0, none⟩) n c).ownBlock ∨ v1.ownBlock = some w.heap.size)) := ⟨k1, k2, k3⟩
      clear k1 k2 k3
      go_wp2_with fail
      go_ret
      exact ⟨_, rfl, HR.out⟩
set_option maxHeartbeats 4000000 in
set_option maxRecDepth 100000 in
theorem insG_O (w : World) (g n i vb : Nat) (xs ys : List Value) (hg : w.heap[g]? = some (.cells xs.toArray 38 (0, 0))) (hl : xs.length = n * 6) (hn : n ≤ 1000) (hi : i < n) (hv : w.heap[vb]? = some (.cells ys.toArray 38 (0, 0))) (hy : ys.length = 6) (h1 : ∀ v ∈ xs, v.oneCell' = true) (h2 : ∀ v ∈ ys, v.oneCell' = true) :
    Calls Tryz.prog 186 #[.slice (some ⟨g, 0, none⟩) n n, .int .i64 i, .slice (some ⟨vb, 0, none⟩) 1 1] w fun e w' => ∃ v', e = .returned v' ∧ Hid (w'.ownsRow w.heap.size 38 6 v' (n + 1) (xs.take (i * 6) ++ ys ++ xs.drop (i * 6)) ∧ Below w.heap.size w w' ∧ v'.ownBlock = some w.heap.size) := by
  have mixed : Tryz.prog.follows .mixedOrders = true := by kernel_rfl
  obtain ⟨i0, hi0, hz0, hz1, hz2⟩ := info_parts info_O
  have hgl := blk_lt hg
  have hvl := blk_lt hv
  have q0 : (n : Int) < (n : Int) + 1 := by omega
  have q1 : ¬ ((i : Int) = (n : Int)) := by omega
  have q3 : (0 : Int) ≤ (i : Int) + 1 := by omega
  have q5 : ¬ (n = i) := by omega
  have q6 : (i : Int) ≤ (n : Int) := by omega
  have q8 : IntKind.i64.wrap ((i : Int) + 1) = (i : Int) + 1 := by rw [IntKind.wrap_i64]; omega
  have q9 : IntKind.i64.wrap ((n : Int) + 1) = (n : Int) + 1 := by rw [IntKind.wrap_i64]; omega
  have q10 : ((i : Int) + 1).toNat = i + 1 := by omega
  have q12 : (i : Int) ≤ (n : Int) + 1 := by omega
  have q13 : (i : Int) + 1 ≤ (n : Int) + 1 := by omega
  have q14 : (n : Int) ≤ 9223372036854775807 := by omega
  have q15 : IntKind.i64.wrap ((n : Int) + 1 - (i : Int)) = ((n + 1 - i : Nat) : Int) := by rw [IntKind.wrap_i64]; omega
  have hik : (i + 1) * 6 = i * 6 + 6 := by omega
  have hxt : (xs.take (i * 6)).length = i * 6 := by rw [List.length_take]; omega
  have hold : (Builtin.firstCells i0.size i (.slice (some ⟨g, 0, none⟩) i n)).run Tryz.prog w.drew = .ok (xs.take (i * 6)).toArray w.drew := by
    rw [hz1]
    exact run_firstCells_some w.drew 6 i ⟨g, 0, none⟩ i n (xs.take (i * 6)) hxt (fun j v hj => by
      rw [addr_add, Nat.zero_add, cell_of_row _ _ _ _ _ _ (hd_drew hg), List.getElem?_toArray]
      rw [List.getElem?_take] at hj
      split at hj
      · exact hj
      · cases hj)
  have hin : i + (n + 1 - i) = n + 1 := by omega
  have hrz : ∀ ty, (Builtin.append_ #[22, 3] ty #[.slice (some ⟨g, 0, none⟩) i n, .int .i64 ((n + 1 - i : Nat) : Int)]).run Tryz.prog w = .ok (.slice (some ⟨w.heap.size, 0, none⟩) (n + 1) (grownCap w (n + 1) n 38)) (w.drew.alloc (.cells ((xs.take (i * 6)).toArray ++ Builtin.zeroCells ((.agg (OC ⟨0, 0, 0, 0, 0, 0⟩)) : Value).cells (n + 1 - i) ++ Builtin.zeroCells ((.agg (OC ⟨0, 0, 0, 0, 0, 0⟩)) : Value).cells (grownCap w (n + 1) n 38 - (n + 1))) 38)) := fun ty => by
    have h := Lib.run_append_grow_zeros w 22 3 ty 38 i0 _ .i64 .i64 Tryz.underlying22 Tryz.underlying3 hi0 hz0 (some ⟨g, 0, none⟩) i n (xs.take (i * 6)) hold (n + 1 - i) (by omega) (by omega) (by omega) (by omega) (by rw [hz2]; omega) (by rw [hz2, hin]; exact growslice_fits (by omega) (by omega))
    rw [hin] at h
    exact h
  obtain ⟨G, hG⟩ : ∃ G, G = grownCap w (n + 1) n 38 := ⟨_, rfl⟩
  have hGn : n + 1 ≤ G := by rw [hG]; exact grownCap_ge w _ _ _
  have hGm : G ≤ maxLen := by rw [hG]; exact grownCap_le_maxLen w (n + 1) n 38 (by unfold maxLen; omega)
  have hG63 : (G : Int) ≤ 9223372036854775807 := by unfold maxLen at hGm; omega
  rw [← hG] at hrz
  obtain ⟨R, hR⟩ : ∃ R : List Value, R.toArray = (xs.take (i * 6)).toArray ++ Builtin.zeroCells ((.agg (OC ⟨0, 0, 0, 0, 0, 0⟩)) : Value).cells (n + 1 - i) ++ Builtin.zeroCells ((.agg (OC ⟨0, 0, 0, 0, 0, 0⟩)) : Value).cells (G - (n + 1)) := ⟨_, Array.toArray_toList⟩
  rw [← hR] at hrz
  have lR : R.length = G * 6 := by
    have := congrArg Array.size hR
    simp only [List.size_toArray, Array.size_append, hxt] at this
    simp [Builtin.zeroCells, Value.cells, OC] at this
    omega
  have tR : R.take (i * 6) = xs.take (i * 6) := by
    have := congrArg Array.toList hR
    rw [Array.toList_append, Array.toList_append] at this
    rw [show R = R.toArray.toList from rfl, this, List.append_assoc, List.take_append_of_le_length (by show _ ≤ (xs.take (i * 6)).length; omega)]
    exact List.take_of_length_le (by show (xs.take (i * 6)).length ≤ _; omega)
  obtain ⟨R1, e1⟩ : ∃ R1, R1 = R.take (i * 6) ++ ys ++ R.drop (i * 6 + ys.length) := ⟨_, rfl⟩
  obtain ⟨R2, e2⟩ : ∃ R2, R2 = R1.take ((i + 1) * 6) ++ xs.drop (i * 6) ++ R1.drop ((i + 1) * 6 + (xs.drop (i * 6)).length) := ⟨_, rfl⟩
  obtain ⟨l1, l2, t2⟩ := grow_steps tR lR hGn hl hy (by omega) e1 e2
  have HW : Hid (∀ W, W = (w.alloc (.cells R.toArray 38)).drew → W.heap[w.heap.size]? = some (.cells R.toArray 38 (0, 0)) ∧ W.heap[vb]? = some (.cells ys.toArray 38 (0, 0)) ∧ W.heap[g]? = some (.cells xs.toArray 38 (0, 0)) ∧ Below w.heap.size w W) := Lib.hid (fun W hW => by
    rw [hW]
    exact ⟨hd_drew (hd_last rfl), hd_drew (hd_prev hvl hv), hd_drew (hd_prev hgl hg), ((Below.refl _ _).alloc (Nat.le_refl _) _).drew⟩)
  have ldx : (xs.drop (i * 6)).length = (n - i) * 6 := by rw [List.length_drop, hl]; omega
  have C1 : Hid (∀ W, W.heap[w.heap.size]? = some (.cells R.toArray 38 (0, 0)) → W.heap[vb]? = some (.cells ys.toArray 38 (0, 0)) → ∀ ty dl dc sc, Nat.min 1 dl = 1 → (Builtin.copy_ #[22, 22] ty #[.slice (some ⟨w.heap.size, i * 6, none⟩) dl dc, .slice (some ⟨vb, 0, none⟩) 1 sc]).run Tryz.prog W = .ok (goInt 1) (W.setRow w.heap.size R1.toArray)) := Lib.hid (fun W k1 k2 ty dl dc sc hm => by
    have := run_copyK W 22 22 ty 38 6 w.heap.size (i * 6) dl dc ⟨vb, 0, none⟩ 1 sc R.toArray 38 ys Tryz.underlying22 size_O k1 1 hm (by omega) (fun j v hj => by
      rw [addr_add, Nat.zero_add, cell_of_row _ _ _ _ _ _ k2, List.getElem?_toArray]; exact hj) (by simp only [List.size_toArray]; omega) h2
    rw [e1]
    exact this)
  have C2 : Hid (∀ W, W.heap[w.heap.size]? = some (.cells R1.toArray 38 (0, 0)) → W.heap[g]? = some (.cells xs.toArray 38 (0, 0)) → ∀ ty dl dc sl sc, Nat.min sl dl = n - i → (Builtin.copy_ #[22, 22] ty #[.slice (some ⟨w.heap.size, (i + 1) * 6, none⟩) dl dc, .slice (some ⟨g, i * 6, none⟩) sl sc]).run Tryz.prog W = .ok (goInt ((n - i : Nat) : Int)) (W.setRow w.heap.size R2.toArray)) := Lib.hid (fun W k1 k2 ty dl dc sl sc hm => by
    have := run_copyK W 22 22 ty 38 6 w.heap.size ((i + 1) * 6) dl dc ⟨g, i * 6, none⟩ sl sc R1.toArray 38 (xs.drop (i * 6)) Tryz.underlying22 size_O k1 (n - i) hm ldx (fun j v hj => by
      rw [addr_add, cell_of_row _ _ _ _ _ _ k2, List.getElem?_toArray]
      rw [List.getElem?_drop] at hj
      exact hj) (by simp only [List.size_toArray]; omega) (fun v hv => h1 v (List.mem_of_mem_drop hv))
    rw [e2]
    exact this)
  have HE := Lib.hid (And.intro l2 (And.intro t2 (And.intro hGn hGm)))
  have HX := Lib.hid (And.intro hgl hy)
  have HXL := Lib.hid (show (xs.take (i * 6) ++ ys ++ xs.drop (i * 6)).length = (n + 1) * 6 by simp only [List.length_append, hxt, hy, ldx]; omega)
  have q16 : ¬ (G = i) := by omega
  have q17 : ¬ (G = i + 1) := by omega
  clear e1 e2 l1 l2 t2 tR lR hR hG hold hin hg hv hl hy hz0 hz1 hz2 hi0 hGn hGm ldx hxt h1 h2 hik
  go_enter Tryz.func186, Tryz.ntmps186
  go_wp2_with (at_builtin; refine Lib.wpList_append_run _ rfl _ _ _ _ rfl _ _ rfl rfl _ _ (hrz _) ?_)
  clear hrz
  generalize hW1 : World.drew (w.alloc (.cells R.toArray 38)) = W1
  obtain ⟨k1, k2, k3, k4⟩ := HW.out W1 hW1.symm
  have K := Lib.hid (And.intro k1 (And.intro k2 (And.intro k3 k4)))
  clear hW1 HW k1 k2 k3 k4
  rw [C1.out W1 K.out.1 K.out.2.1 _ _ _ _ (by simp only [Nat.min_def]; split <;> omega)]
  go_wp2_with fail
  refine wp_region_held_drew (S := fun _ => True) (by kernel_rfl) trivial (fun hHeld => ?_)
  clear hHeld
  refine wpAnyH_take (i := 0) (oi := ⟨some 46, _, _, _, _, _⟩) (v := ?_) rfl (by kernel_rfl) (by kernel_rfl) (by kernel_rfl) (fun _ _ _ h => h) (Or.inl ⟨by kernel_rfl, ?_⟩) trivial ?_
  rotate_left
  · (intro w hSw; go_simp; try with_reducible rfl)
  (repeat (first | simp only [Act.put] | simp only [List.setIfInBounds_toArray] | simp only [List.set_cons_succ] | simp only [List.set_cons_zero]))
  refine wpAnyH_take (i := 1) (oi := ⟨some 47, _, _, _, _, _⟩) (v := ?_) rfl (by kernel_rfl) (by kernel_rfl) (by kernel_rfl) (fun _ _ _ h => h) (Or.inl ⟨by kernel_rfl, ?_⟩) trivial ?_
  rotate_left
  · (intro w hSw; go_simp; try with_reducible rfl)
  (repeat (first | simp only [Act.put] | simp only [List.setIfInBounds_toArray] | simp only [List.set_cons_succ] | simp only [List.set_cons_zero]))
  refine wpAnyH_take (i := 2) (oi := ⟨some 48, _, _, _, _, _⟩) (v := ?_) rfl (by kernel_rfl) (by kernel_rfl) (by kernel_rfl) (fun _ _ _ h => h) (Or.inl ⟨by kernel_rfl, ?_⟩) trivial ?_
  rotate_left
  · (intro w hSw; go_simp; try with_reducible rfl)
  (repeat (first | simp only [Act.put] | simp only [List.setIfInBounds_toArray] | simp only [List.set_cons_succ] | simp only [List.set_cons_zero]))
  refine wpAnyH_take (i := 3) (oi := ⟨some 49, _, _, _, _, _⟩) (v := ?_) rfl (by kernel_rfl) (by kernel_rfl) (by kernel_rfl) (fun _ _ _ h => h) (Or.inl ⟨by kernel_rfl, ?_⟩) trivial ?_
  rotate_left
  · (intro w hSw; go_simp; try with_reducible rfl)
  (repeat (first | simp only [Act.put] | simp only [List.setIfInBounds_toArray] | simp only [List.set_cons_succ] | simp only [List.set_cons_zero]))
  refine wpAnyH_take (i := 4) (oi := ⟨some 50, _, _, _, _, _⟩) (v := ?_) rfl (by kernel_rfl) (by kernel_rfl) (by kernel_rfl) (fun _ _ _ h => h) (Or.inl ⟨by kernel_rfl, ?_⟩) trivial ?_
  rotate_left
  · (intro w hSw; go_simp; try with_reducible rfl)
  (repeat (first | simp only [Act.put] | simp only [List.setIfInBounds_toArray] | simp only [List.set_cons_succ] | simp only [List.set_cons_zero]))
  refine wpAnyH_take (i := 5) (oi := ⟨some 51, _, _, _, _, _⟩) (v := ?_) rfl (by kernel_rfl) (by kernel_rfl) (by kernel_rfl) (fun _ _ _ h => h) (Or.inl ⟨by kernel_rfl, ?_⟩) trivial ?_
  rotate_left
  · (intro w hSw; go_simp; try with_reducible rfl)
  (repeat (first | simp only [Act.put] | simp only [List.setIfInBounds_toArray] | simp only [List.set_cons_succ] | simp only [List.set_cons_zero]))
  refine wpAnyH_take (i := 6) (oi := ⟨some 52, _, _, _, _, _⟩) (v := ?_) rfl (by kernel_rfl) (by kernel_rfl) (by kernel_rfl) (fun _ _ _ h => h) (Or.inl ⟨by kernel_rfl, ?_⟩) trivial ?_
  rotate_left
  · (intro w hSw; go_simp; try with_reducible rfl)
  (repeat (first | simp only [Act.put] | simp only [List.setIfInBounds_toArray] | simp only [List.set_cons_succ] | simp only [List.set_cons_zero]))
  refine wpAnyH_take (i := 7) (oi := ⟨some 53, _, _, _, _, _⟩) (v := ?_) rfl (by kernel_rfl) (by kernel_rfl) (by kernel_rfl) (fun _ _ _ h => h) (Or.inl ⟨by kernel_rfl, ?_⟩) trivial ?_
  rotate_left
  · (intro w hSw; go_simp; try with_reducible rfl)
  (repeat (first | simp only [Act.put] | simp only [List.setIfInBounds_toArray] | simp only [List.set_cons_succ] | simp only [List.set_cons_zero]))
  have G1 : (W1.setRow w.heap.size R1.toArray).drew.heap[w.heap.size]? = some (.cells R1.toArray 38 (0, 0)) := hd_drew (setRow_heap _ _ _ _ _ _ K.out.1)
  have G2 : (W1.setRow w.heap.size R1.toArray).drew.heap[g]? = some (.cells xs.toArray 38 (0, 0)) := hd_drew ((setRow_other _ _ _ _ (by have := HX.out.1; omega)).trans K.out.2.2.1)
  refine wpAnyH_ready (rs := [8]) (by kernel_rfl) (by simp) ?_
  refine AllReadyH.cons (o := ⟨some 54, _, _, _, _, _⟩) rfl (fun K hK => ?_) AllReadyH.nil
  refine step_copy_runI rfl _ _ 22 22 rfl _ _ rfl rfl (C2.out _ G1 G2 _ _ _ _ _ (by simp only [Nat.min_def]; split <;> omega)) ?_
  refine hK.out _ _ trivial (fun hHeld => ?_)
  clear hK K hHeld
  (repeat (first | simp only [Act.put] | simp only [List.setIfInBounds_toArray] | simp only [List.set_cons_succ] | simp only [List.set_cons_zero]))
  refine wpAnyH_done (by kernel_rfl) ?_ _
  have F : Hid (((W1.setRow w.heap.size R1.toArray).drew.setRow w.heap.size R2.toArray).ownsRow w.heap.size 38 6 (.slice (some ⟨w.heap.size, 0, none⟩) (n + 1) G) (n + 1) (xs.take (i * 6) ++ ys ++ xs.drop (i * 6)) ∧ Below w.heap.size w ((W1.setRow w.heap.size R1.toArray).drew.setRow w.heap.size R2.toArray)) := by
    refine ⟨⟨HXL.out, .inr ⟨w.heap.size, G, R2.toArray, rfl, Nat.le_refl _, setRow_heap _ _ _ _ _ _ G1, HE.out.2.2.1, HE.out.2.2.2, by rw [List.size_toArray]; exact HE.out.1, HE.out.2.1⟩⟩, ?_⟩
    exact below_setRow ((below_setRow K.out.2.2.2 (Nat.le_refl _) _).drew) (Nat.le_refl _) _
  clear G1 G2 C1 C2 K HE HXL HX
  go_wp2_with fail
  go_ret
  exact ⟨_, rfl, F.out.1, F.out.2, rfl⟩
theorem ins_O (w : World) (base n i : Nat) (v : Value) (xs ys : List Value) (vb : Nat) (hown : w.ownsRow base 38 6 v n xs) (hb : base ≤ w.heap.size) (hn : n ≤ 1000) (hi : i ≤ n) (hvb : v.ownBlock ≠ some vb) (hv : w.heap[vb]? = some (.cells ys.toArray 38 (0, 0))) (hy : ys.length = 6) (h1 : ∀ u ∈ xs, u.oneCell' = true) (h2 : ∀ u ∈ ys, u.oneCell' = true) :
    Calls Tryz.prog 186 #[v, .int .i64 i, .slice (some ⟨vb, 0, none⟩) 1 1] w fun e w' => ∃ v', e = .returned v' ∧ Hid (w'.ownsRow base 38 6 v' (n + 1) (xs.take (i * 6) ++ ys ++ xs.drop (i * 6)) ∧ w.grownBy w' v.ownBlock ∧ (v'.ownBlock = v.ownBlock ∨ v'.ownBlock = some w.heap.size)) := by
  have hl := hown.1
  by_cases hin : i = n
  · subst hin
    refine (insA_O w base i v xs ys vb hown hb hn hv hy h2).mono fun e w' ⟨v', he, h⟩ => ⟨v', he, ?_⟩
    rw [List.take_of_length_le (by omega), List.drop_eq_nil_of_le (by omega), List.append_nil]
    exact h
  rcases hown.2 with ⟨_, h0⟩ | ⟨g, c, cur, rfl, hbg, hg, hc, hm, hs, ht⟩
  · omega
  have hvg : vb ≠ g := fun e => hvb (by rw [e]; rfl)
  have hll : cur.toList.length = c * 6 := by rw [Array.length_toList]; exact hs
  by_cases hcn : n + 1 ≤ c
  · refine (insS_O w g n c i vb cur.toList ys (by rw [Array.toArray_toList]; exact hg) hll hcn (by omega) hm hvg hv hy (by rw [ht]; exact h1) h2).mono fun e w' ⟨he, h⟩ => ⟨_, he, ?_⟩
    obtain ⟨k1, k2⟩ := insC_take (xs := xs) (i := i) (by omega) hcn hll hy ht
    refine ⟨⟨?_, .inr ⟨g, c, _, rfl, hbg, h.out.2, hcn, hm, by rw [List.size_toArray]; exact k1, k2⟩⟩, h.out.1, .inl rfl⟩
    simp only [List.length_append, List.length_take, List.length_drop, hy]
    omega
  · obtain rfl : c = n := by omega
    have ex : cur = xs.toArray := by rw [← ht, List.take_of_length_le (by omega), Array.toArray_toList]
    rw [ex] at hg
    refine (insG_O w g c i vb xs ys hg hl hn (by omega) hv hy h1 h2).mono fun e w' ⟨v', he, h⟩ => ⟨v', he, own_base h.out.1 hb, ?_, .inr h.out.2.2⟩
    exact ⟨h.out.2.1.os, h.out.2.1.tape, h.out.2.1.output, h.out.2.1.size, fun j hj _ => h.out.2.1.block j hj⟩
end Go.Proofs.YtgbmgdffgmablaaGreat

namespace Go.Proofs.YtgbmgdffgmablaaGreat
open Go.RowKit Go.Shelf Go.Sort

attribute [local go_sem] Oper.semAt_some

theorem own_kept {w w' : World} {base n size : Nat} {e : TypeId} {v : Value} {xs : List Value} {row : Option Nat} (h : w.ownsRow base e size v n xs) (hg : w.grownBy w' row) (hr : ∀ r, row = some r → ∃ o : Obj, w.heap[r]? = some o ∧ o.isCells = false) : w'.ownsRow base e size v n xs := by
  obtain ⟨h1, h2⟩ := h
  refine ⟨h1, ?_⟩
  rcases h2 with hn | ⟨k, cap, cur, rfl, hb, hk, rest⟩
  · exact .inl hn
  · exact .inr ⟨k, cap, cur, rfl, hb, (Cl.own (T := e) (cs := cur) hk hg hr), rest⟩
/-- An own row's cells, as they are appended. -/
theorem que_news {S : Nat → Prop} {w W : World} {base : Nat} {T : TypeId} {v : Value} {A : Option Addr} {n c : Nat} {q : List Od} (h : w.ownsRow base T 6 v q.length (ol q)) (hv : v = .slice A n c) (hne : q ≠ []) (hf : Fr S w W) (hS : ∀ k, v.ownBlock = some k → ¬ S k) :
    ∃ ad, A = some ad ∧ ∀ j u, (ol q)[j]? = some u → W.cell? (ad.add j) = some u := by
  rcases h.2 with ⟨_, h0⟩ | ⟨k, cap, cur, hv', _, hk, _, _, _, ht⟩
  · exact absurd (List.length_eq_zero_iff.1 h0) hne
  · rw [hv] at hv'
    injection hv' with e1 e2 e3
    refine ⟨⟨k, 0, none⟩, e1, fun j u hj => ?_⟩
    have hk' := hf.blk hk (hS k (by rw [hv, e1]; rfl))
    rw [addr_add, Nat.zero_add, cell_of_row _ _ _ _ _ _ hk']
    rw [← ht, List.getElem?_take] at hj
    split at hj
    · rw [Array.getElem?_toList] at hj; exact hj
    · cases hj
theorem own_que2 {w : World} {base n size : Nat} {T : TypeId} {v : Value} {xs : List Value} (h : w.ownsRow base T size v n xs) : ∃ A c, v = .slice A n c ∧ True := by
  rcases h.2 with ⟨hv, h0⟩ | ⟨k, cap, cur, hv, _⟩
  · subst h0; exact ⟨none, 0, hv, trivial⟩
  · exact ⟨_, _, hv, trivial⟩
theorem own_far {T T' : TypeId} {W w1 : World} {B base n size : Nat} {cs : Array Value} {v : Value} {xs : List Value} (h : Cl T W B cs) (ho : W.ownsRow base T' size v n xs) (hg : W.grownBy w1 v.ownBlock) (hB : B < base) : Cl T w1 B cs :=
  (hg.block _ (blk_lt h) (fun e => by have := (own_lt ho B e.symm).1; omega)).trans h
theorem keeps_own {T : TypeId} {W w1 : World} (B : Nat) {base n size : Nat} {v : Value} {xs : List Value} (ho : W.ownsRow base T size v n xs) (hg : W.grownBy w1 v.ownBlock) : KeepsFrom B W w1 := by
  refine ⟨hg.size, fun i o _ hi hc => ?_⟩
  refine (hg.block i (blk_lt hi) (fun e => ?_)).trans hi
  rcases ho.2 with ⟨hv, _⟩ | ⟨k, cap, cur, hv, _, hk, _⟩
  · rw [hv] at e; cases e
  · rw [hv] at e
    injection e with e
    subst e
    rw [hk] at hi; cases hi; cases hc
theorem own_put {T : TypeId} {X : World} {base n size : Nat} {v : Value} {xs : List Value} (h : X.ownsRow base T size v n xs) (D : Nat) {o o' : Obj} (hD : X.heap[D]? = some o) (hc : o.isCells = false) : (X.putObj D o').ownsRow base T size v n xs := by
  obtain ⟨h1, h2⟩ := h
  refine ⟨h1, ?_⟩
  rcases h2 with hn | ⟨k, cap, cur, rfl, hb, hk, rest⟩
  · exact .inl hn
  · exact .inr ⟨k, cap, cur, rfl, hb, Cl.put (T := T) (cs := cur) hk D hD hc, rest⟩
theorem ol_append (a b : List Od) : ol (a ++ b) = ol a ++ ol b := by unfold ol; rw [List.flatMap_append]
theorem vals_snoc {s1 s2 : Sd} (pre : List (Rx s1 s2)) (x : Rx s1 s2) : vals (pre ++ [x]) = vals pre ++ [x.1] := by unfold vals; simp
theorem flat_many : ∀ (l : List Rw), (∀ r ∈ l, r.q.length ≤ 1000) → (flatR l).length ≤ l.length * 1000
  | [], _ => Nat.le_refl _
  | r :: l, h => by
    have h1 := h r (by simp)
    have h2 := flat_many l (fun r hr => h r (by simp [hr]))
    unfold flatR at *
    rw [List.flatMap_cons, List.length_append, List.length_cons]
    omega
theorem all_bound {s1 s2 : Sd} {pre : List (Rx s1 s2)} {s : Rx s1 s2} (hQ : lenQ (s1.rs ++ s2.rs) ≤ 1000) (hp : pre.length < (s1.rs ++ s2.rs).length) (h1 : s1.rs.length ≤ 1000) (h2 : s2.rs.length ≤ 1000) : (flatR (vals pre)).length + s.1.q.length ≤ 2001000 := by
  have hb := flat_many (vals pre) (fun r hr => by
    obtain ⟨x, _, rfl⟩ := List.mem_map.1 hr
    exact Nat.le_trans lenQ_pre hQ)
  have hs := Nat.le_trans (lenQ_pre (x := s)) hQ
  rw [vals_len] at hb
  rw [List.length_append] at hp
  omega
set_option maxHeartbeats 4000000 in
set_option maxRecDepth 100000 in
theorem lAll_c (b : Option Addr) (m : Option Nat) (s1 s2 : Sd) (w : World) (H : Bk w b m s1 s2) (hR1 : s1.rs.length ≤ 1000) (hR2 : s2.rs.length ≤ 1000) (hQ : lenQ (s1.rs ++ s2.rs) ≤ 1000) (hne : ∀ r ∈ s1.rs ++ s2.rs, r.q ≠ []) :
    Calls Tryz.prog 169 #[.pointer b] w fun e w' => ∃ v, e = .returned v ∧ Hid (w'.ownsRow w.heap.size 38 6 v (bookL s1.rs s2.rs).length (ol (bookL s1.rs s2.rs)) ∧ Below w.heap.size w w') := by
  obtain ⟨i0, hi0, hz0, hz1, hz2⟩ := info_parts info_O
  refine (callsIn_wide (n := 5)).1 ?_
  refine callsIn_of_wp_marks Tryz.func169 rfl trivial ?_ rfl
  simp only [Tryz.ntmps169, List.size_toArray, List.length_cons, List.length_nil, Nat.reduceAdd, Nat.reduceSub, Array.replicate_succ, Array.replicate_zero, List.push_toArray, List.append_toArray, List.nil_append, List.cons_append]
  gi_wp2_with (refine ⟨trivial, ?_⟩; refine ((callsIn_wide (n := 5 - 1)).2 (over_c _ _ _ _ _)).mono ?_; rintro e w' ⟨rfl, rfl⟩)
  have e1 : w.heap.size + 1 + 1 + 1 = w.heap.size + 3 := rfl
  obtain ⟨W1, hW1⟩ : ∃ W1, w.alloc (.cells #[.slice none 0 0] 22) = W1 := ⟨_, rfl⟩
  have hz1 : W1.heap.size = w.heap.size + 1 := by rw [← hW1]; simp
  have hB1 : Below w.heap.size w W1 := by rw [← hW1]; exact (Below.refl _ _).alloc (Nat.le_refl _) _
  have hM := ov_two (fun k => k = w.heap.size ∨ w.heap.size + 4 ≤ k) W1 b m s1 s2 (H.below hB1) (fun k hk hS => by have := H.lt hk; omega) (by omega) (by omega) (by omega)
  obtain ⟨W0, hW0⟩ : ∃ W0, (((W1.alloc (.cells #[.int .i64 1, .int .i64 2] 3)).alloc (.cells #[.pointer b] 102)).alloc (.cells #[.slice (some ⟨W1.heap.size, 0, none⟩) 2 2] 216)) = W0 := ⟨_, rfl⟩
  have hc0 : Cl 22 W0 w.heap.size #[.slice none 0 0] := by
    rw [← hW0, ← hW1]
    exact hd_prev (by simp; omega) (hd_prev (by simp; omega) (hd_prev (by simp) (hd_last rfl)))
  have hB0 : Below w.heap.size w W0 := by rw [← hW0, ← hW1]; exact ((((Below.refl _ _).alloc (Nat.le_refl _) _).alloc (by simp) _).alloc (by simp; omega) _).alloc (by simp; omega) _
  have hsz : W0.heap.size = w.heap.size + 4 := by rw [← hW0]; simp; omega
  rw [hW0] at hM
  rw [hz1] at hM hW0
  have hWW : (((w.alloc (.cells #[.slice none 0 0] 22)).alloc (.cells #[.int .i64 1, .int .i64 2] 3)).alloc (.cells #[.pointer b] 102)).alloc (.cells #[.slice (some ⟨w.heap.size + 1, 0, none⟩) 2 2] 216) = W0 := by rw [hW1]; exact hW0
  rw [hWW]
  clear hWW hW0 hW1 hz1 hB1
  refine wpIn_rangeFunc_ownH rfl (by omega) (gf := 187) (lb := #[.pointer (some ⟨w.heap.size + 3, 0, none⟩), .pointer (some ⟨w.heap.size + 2, 0, none⟩)]) rfl trivial (enters_of Tryz.func187 (by kernel_rfl) rfl)
    (over_stops (5 - 1) (by omega) (fun k => k = w.heap.size ∨ w.heap.size + 4 ≤ k) (w.heap.size + 3) (w.heap.size + 2) (w.heap.size + 1) [1, 2] b m s1 s2 (by simp) hR1 hR2 W0 (s1.rs ++ s2.rs).length (by rw [two_sides]; exact Nat.le_refl _) hM) Fr.t (fun W l o o' hl ho _ _ => fr_b W l o o' (.inr (by omega)) ho) (Below.refl _ _) (fun _ => rfl)
    (fun pre W => (∃ v, Cl 22 W w.heap.size #[v] ∧ W.ownsRow (w.heap.size + 4) 38 6 v (flatR (vals pre)).length (ol (flatR (vals pre))) ∧ w.heap.size + 4 ≤ W.heap.size ∧ ∀ r ∈ vals pre, r ∈ s1.rs ++ s2.rs) ∧ Below w.heap.size w W)
    (fun _ _ _ => False)
    (OwnFrom.and (Own.from (fun s A B row hs hg hr => by obtain ⟨v, h1, h2, h3, h4⟩ := hs; exact ⟨v, h1.own hg hr, own_kept h2 hg hr, Nat.le_trans h3 hg.size, h4⟩) _) (ownFrom_below (Nat.le_refl _) (by omega)))
    (fun _ _ _ _ _ hs _ _ => hs)
    ⟨⟨_, hc0, ⟨rfl, .inl ⟨rfl, rfl⟩⟩, by omega, fun r hr => by cases hr⟩, hB0⟩
    (AxR (w.heap.size + 1) #[.pointer b, undef, .slice none 0 0, .pointer (some ⟨w.heap.size, 0, none⟩), undef, .pointer b, .slice (some ⟨w.heap.size + 1, 0, none⟩) 2 2, .func (.func 187) #[] #[.pointer (some ⟨w.heap.size + 3, 0, none⟩), .pointer (some ⟨w.heap.size + 2, 0, none⟩)], undef, undef, undef, undef, undef, undef] 4 8)
    (fun x a' _ X Y row hs hg hr => by obtain ⟨B, A, c, h1, h2, h3⟩ := hs; exact ⟨B, A, c, h1, h2.own hg (fun r e => (hr r e).2), h3⟩)
    ?assign ?body ?done ?stop
  case assign =>
    rintro l0 pre x W K ⟨⟨v, hc, ho, h4, hm⟩, hB⟩ hK
    obtain ⟨A, c, hv, _⟩ := own_que (H.q x.1 x.2)
    have hval : Rw.val x.1 = .agg #[.int .i64 x.1.pr, .slice A x.1.q.length c] := by unfold Rw.val; rw [hv]
    unfold AxR at hK
    simp only [hval] at hK ⊢
    gi_wp2
    refine hK _ _ ((KeepsOthers.alloc _ _).from _) ((Fr.refl _ W).alloc _) ⟨⟨v, hd_prev (blk_lt hc) hc, ho.alloc _, by rw [World.size_alloc]; omega, hm⟩, hB.alloc hB.size _⟩ ⟨W.heap.size, A, c, ?_, hd_last rfl, hv, rfl⟩
    have := blk_lt hc
    omega
  case body =>
    rintro l0 pre x a' W hl ⟨r, hr⟩ ⟨⟨v, hc, ho, h4, hm⟩, hB⟩ ⟨Bx, A, c, hBx, bX, hv, rfl⟩ hlt
    obtain ⟨A0, c0, rfl, _⟩ := own_que ho
    have p0 : W.cell? ⟨w.heap.size, 0, none⟩ = some (.slice A0 (flatR (vals pre)).length c0) := (hc.c 0).trans rfl
    have p1 : W.cell? ⟨Bx, 1, none⟩ = some (.slice A x.1.q.length c) := (bX.c 1).trans rfl
    have f0 := hc.f (k := 0)
    have hval : Rw.val x.1 = .agg #[.int .i64 x.1.pr, .slice A x.1.q.length c] := by unfold Rw.val; rw [hv]
    simp only [hval]
    obtain ⟨ad, rfl, hnews⟩ := que_news (H.q x.1 x.2) hv (hne x.1 x.2) (fr_low hB) (fun k hk => by
      intro hle
      have := H.lt (.inr (.inr (.inr (.inr ⟨x.1, x.2, hk⟩))) : foot b m s1 s2 k)
      omega)
    have hbd := all_bound hQ (s := x) hlt hR1 hR2
    have HW := Lib.hid (And.intro hc (And.intro ho (And.intro h4 (And.intro hm hB))))
    clear hc h4 hm hB hl hval bX
    gi_wp2_with (gi_at_builtin; refine wpListIn_append_own_at _ rfl _ _ _ rfl (w.heap.size + 4) _ i0 (.agg (OC ⟨0, 0, 0, 0, 0, 0⟩)) 6 48 Tryz.underlying22 hi0 hz0 hz1 hz2 rfl (by decide) _ _ _ rfl ho ad _ _ (ol x.1.q) rfl (ol_len _) hnews (ol_one _) (by unfold maxLen; omega) (by omega) HW.out.2.2.1 ?_; intro v' w1 hown' hgrow hnil hloc; obtain ⟨A1, c1, rfl, _⟩ := own_que2 hown'; have hc1 : Cl 22 w1 w.heap.size #[.slice A0 (flatR (vals pre)).length c0] := own_far HW.out.1 ho hgrow (Nat.lt_of_lt_of_le (Nat.lt_succ_self _) (Nat.le_add_right (w.heap.size + 1) 3)); have p2 : w1.cell? ⟨w.heap.size, 0, none⟩ = some (.slice A0 (flatR (vals pre)).length c0) := (hc1.c 0).trans rfl; have f2 := hc1.f (k := 0); clear p0 p1 f0)
    have hfr : Fr (fun k => k = w.heap.size ∨ w.heap.size + 4 ≤ k) W w1 := (Fr.refl _ W).grown hgrow (fun j e => .inl (.inr (own_lt ho j e).1))
    refine ⟨(keeps_own _ ho hgrow).trans ((KeepsOthers.setCell _ _ _).from _), hfr.set (.inl (.inl rfl)) _, ⟨.slice A1 ((flatR (vals pre)).length + x.1.q.length) c1, (heap_set hc1).trans rfl, ?_, (by rw [show (w1.setCell ⟨w.heap.size, 0, none⟩ _).heap.size = w1.heap.size by simp [World.setCell]]; exact Nat.le_trans HW.out.2.2.1 hgrow.size), ?_⟩, (HW.out.2.2.2.2.trans (hfr.below (fun k hk => by rcases hk with h | h <;> omega) HW.out.2.2.2.2.size)).setCell (p := ⟨w.heap.size, 0, none⟩) (Nat.le_refl _) _⟩
    · rw [flat_snoc, List.length_append, ol_append]
      refine own_fr (S := fun k => k = w.heap.size) hown' ((Fr.refl (fun k => k = w.heap.size) w1).set (p := ⟨w.heap.size, 0, none⟩) (.inl rfl) _) (fun k hk e => ?_)
      have := (own_lt hown' k hk).1
      omega
    · intro y hy
      rw [vals_snoc] at hy
      rcases List.mem_append.1 hy with hy | hy
      · exact List.mem_append.1 (HW.out.2.2.2.1 y hy)
      · rw [List.mem_singleton.1 hy]; exact List.mem_append.1 x.2
  case done =>
    rintro D ys W hD hys ⟨⟨v, hc, ho, h4, hm⟩, hB⟩ hK
    rw [two_sides] at hys
    rw [hys, flatR_app] at ho
    obtain ⟨A0, c0, rfl, _⟩ := own_que2 ho
    have p0 : W.cell? ⟨w.heap.size, 0, none⟩ = some (.slice A0 (bookL s1.rs s2.rs).length c0) := (hc.c 0).trans rfl
    clear hys hm hM hc0
    gi_wp2_with fail
    refine ⟨by simp, .inl ⟨_, _, rfl, run_takeDeferred hK, ?_⟩⟩
    exact ⟨_, results_tmp rfl _ _ _, _, rfl, Lib.hid ⟨own_base (own_put ho D hK rfl) (by omega), hB.trans (belowK_b (w := w) (Nat.le_refl _) W D _ _ (by omega) hK rfl rfl)⟩⟩
  case stop =>
    rintro D c pre W _ _ h _
    exact h.elim
end Go.Proofs.YtgbmgdffgmablaaGreat

namespace Go.Proofs.YtgbmgdffgmablaaGreat
open Go.RowKit Go.Shelf Go.Sort

attribute [local go_sem] Oper.semAt_some

end Go.Proofs.YtgbmgdffgmablaaGreat

namespace Go.Proofs.YtgbmgdffgmablaaGreat
open Go.RowKit Go.Shelf Go.Sort

theorem retOt {fn : Func} {p q : Tmp} (h : fn.results = #[.cell p 38, .tmp q]) (tmps : Array Value) (w : World) (g : Nat) (hp : tmps.getD p undef = .pointer (some ⟨g, 0, none⟩)) (z : Od) (t : TypeId)
    (hg : Cl t w g (OC z)) (v : Value) (hq : tmps.getD q undef = v) : (results fn tmps).run Tryz.prog w = .ok (.tuple #[.agg (OC z), v]) w := by
  have hp' : tmps[p]?.getD undef = .pointer (some ⟨g, 0, none⟩) := by simpa using hp
  have hq' : tmps[q]?.getD undef = v := by simpa using hq
  simp [results, h, hp', hq', asAddr, run_loadVar_row w g _ _ _ (0, 0) _ hg Tryz.underlying38 rfl infoO]
end Go.Proofs.YtgbmgdffgmablaaGreat

namespace Go.Proofs.YtgbmgdffgmablaaGreat
open Go.RowKit Go.Shelf Go.Sort

theorem rl_app (a b : List Rw) : rl (a ++ b) = rl a ++ rl b := by unfold rl; rw [List.flatMap_append]
theorem rl_take (R : List Rw) (i : Nat) (h : i ≤ R.length) : (rl R).take (i * 2) = rl (R.take i) ∧ (rl R).drop (i * 2) = rl (R.drop i) := by
  have e : rl R = rl (R.take i) ++ rl (R.drop i) := by rw [← rl_app, List.take_append_drop]
  have hl : (rl (R.take i)).length = i * 2 := by rw [rl_len, List.length_take, Nat.min_eq_left h]
  constructor
  · rw [e, ← hl, List.take_left']; rfl
  · rw [e, ← hl, List.drop_left']; rfl
theorem ol_take (q : List Od) (i : Nat) (h : i ≤ q.length) : (ol q).take (i * 6) = ol (q.take i) ∧ (ol q).drop (i * 6) = ol (q.drop i) := by
  have e : ol q = ol (q.take i) ++ ol (q.drop i) := by rw [← ol_append, List.take_append_drop]
  have hl : (ol (q.take i)).length = i * 6 := by rw [ol_len, List.length_take, Nat.min_eq_left h]
  constructor
  · rw [e, ← hl, List.take_left']; rfl
  · rw [e, ← hl, List.drop_left']; rfl
/-- An order put into a queue's cells. -/
theorem ol_putQ (o : Od) (q : List Od) : (ol q).take (plN o q * 6) ++ encO o ++ (ol q).drop (plN o q * 6) = ol (putQ o q) := by
  obtain ⟨h1, h2⟩ := ol_take q (plN o q) (pl_le o q)
  rw [h1, h2]
  unfold putQ
  rw [ol_append]
  show _ = ol (q.take (plN o q)) ++ (encO o ++ ol (q.drop (plN o q)))
  rw [List.append_assoc]
theorem putQ_len (o : Od) (q : List Od) : (putQ o q).length = q.length + 1 := (putQ_perm o q).length_eq
/-- A row put into the rows' cells. -/
theorem rl_ins (R : List Rw) (k : Nat) (hk : k ≤ R.length) (r : Rw) : (rl R).take (k * 2) ++ r.cs ++ (rl R).drop (k * 2) = rl (R.take k ++ r :: R.drop k) := by
  obtain ⟨h1, h2⟩ := rl_take R k hk
  rw [h1, h2, rl_app]
  show _ = rl (R.take k) ++ (r.cs ++ rl (R.drop k))
  rw [List.append_assoc]
theorem rl_set (R : List Rw) (k : Nat) (hk : k < R.length) (r' : Rw) (hp : r'.pr = (R[k]!).pr) : rl (R.take k ++ r' :: R.drop (k + 1)) = (rl R).set (k * 2 + 1) r'.v := by
  have e : R = R.take k ++ R[k]! :: R.drop (k + 1) := by
    rw [getElem!_pos R k hk, ← List.drop_eq_getElem_cons hk, List.take_append_drop]
  have hl : (rl (R.take k)).length = k * 2 := by rw [rl_len, List.length_take, Nat.min_eq_left (Nat.le_of_lt hk)]
  conv => rhs; rw [e]
  rw [rl_app, rl_app, List.set_append, if_neg (by omega)]
  congr 1
  rw [hl, show k * 2 + 1 - k * 2 = 1 by omega]
  show r'.cs ++ rl _ = (((R[k]!).cs ++ rl _)).set 1 _
  unfold Rw.cs
  rw [hp]
  rfl
theorem set_len (R : List Rw) (k : Nat) (hk : k < R.length) (r' : Rw) : (R.take k ++ r' :: R.drop (k + 1)).length = R.length := by
  rw [List.length_append, List.length_take, List.length_cons, List.length_drop]; omega
/-- A cell of an own row is written. -/
theorem own_setCell {w : World} {base n size j : Nat} {T : TypeId} {v u : Value} {xs : List Value} {g : Nat} (h : w.ownsRow base T size v n xs) (hv : v.ownBlock = some g) : (w.setCell ⟨g, j, none⟩ u).ownsRow base T size v n (xs.set j u) := by
  obtain ⟨h1, h2⟩ := h
  refine ⟨by rw [List.length_set]; exact h1, ?_⟩
  rcases h2 with ⟨e, _⟩ | ⟨k, cap, cur, e, hb, hk, hc, hm, hs, ht⟩
  · rw [e] at hv; cases hv
  · rw [e] at hv
    injection hv with hv
    subst hv
    refine .inr ⟨k, cap, cur.setIfInBounds j u, e, hb, heap_set hk, hc, hm, by simpa using hs, ?_⟩
    rw [Array.toList_setIfInBounds, List.take_set, ht]
theorem own_cell {w : World} {base n size j : Nat} {T : TypeId} {v u : Value} {xs : List Value} {g : Nat} (h : w.ownsRow base T size v n xs) (hv : v.ownBlock = some g) (hj : xs[j]? = some u) : w.cell? ⟨g, j, none⟩ = some u ∧ w.frozen? ⟨g, j, none⟩ = false := by
  rcases h.2 with ⟨e, _⟩ | ⟨k, cap, cur, e, hb, hk, hc, hm, hs, ht⟩
  · rw [e] at hv; cases hv
  · rw [e] at hv
    injection hv with hv
    subst hv
    refine ⟨?_, frozen_of_row _ _ _ _ _ hk⟩
    rw [cell_of_row _ _ _ _ _ _ hk]
    rw [← ht, List.getElem?_take] at hj
    split at hj
    · rw [Array.getElem?_toList] at hj; exact hj
    · cases hj

/-- A side's rows behind an order that was put in. -/
def PutR (s : Int) (o : Od) (R R' : List Rw) : Prop :=
  ∃ A B r' M, R = A ++ M ++ B ∧ R' = A ++ r' :: B ∧ r'.pr = o.price ∧ (∀ a ∈ A, betN s a.pr o.price = true) ∧ (∀ b ∈ B, betN s o.price b.pr = true) ∧
    ((M = [] ∧ r'.q = [o]) ∨ ∃ r, M = [r] ∧ r.pr = o.price ∧ r'.q = putQ o r.q)
theorem putR_ok {s : Int} (hs : s = 1 ∨ s = 2) {o : Od} (ho : o.side = s) {R R' : List Rw} (h : SideOk s R) (hi : ∀ x ∈ flatR R, ¬ x.id = o.id) (hp : PutR s o R R') : SideOk s R' ∧ (flatR R').Perm (o :: flatR R) := by
  obtain ⟨A, B, r', M, rfl, rfl, hpr, hA, hB, hM⟩ := hp
  rcases hM with ⟨rfl, hq⟩ | ⟨r, rfl, hr, hq⟩
  · refine ⟨side_set hA hB h hpr (by rw [hq]; simp) (fun x hx => by rw [hq, List.mem_singleton] at hx; subst hx; exact ⟨ho, rfl⟩) (by rw [hq]; simp), ?_⟩
    unfold flatR
    rw [List.append_nil, List.flatMap_append, List.flatMap_cons, hq, List.flatMap_append]
    exact List.perm_middle
  · have hr' : r ∈ A ++ [r] ++ B := by simp
    have hm := h.mem r hr'
    refine ⟨side_set hA hB h hpr ?_ (fun x hx => ?_) ?_, ?_⟩
    · rw [hq]
      intro e
      have := putQ_len o r.q
      rw [e] at this
      cases this
    · rw [hq] at hx
      rcases List.mem_cons.1 ((putQ_perm o r.q).mem_iff.1 hx) with rfl | hx
      · exact ⟨ho, rfl⟩
      · rw [← hr]; exact hm x hx
    · rw [hq]
      exact putQ_ok hs ⟨ho, rfl⟩ (fun x hx => by rw [← hr]; exact hm x hx) (h.que r hr') (fun x hx => hi x (List.mem_flatMap.2 ⟨r, hr', hx⟩))
    · unfold flatR
      rw [List.flatMap_append, List.flatMap_cons, List.flatMap_append, List.flatMap_append, hq]
      simp only [List.flatMap_cons, List.flatMap_nil, List.append_nil, List.append_assoc]
      refine ((putQ_perm o r.q).append_right _).append_left _ |>.trans ?_
      exact List.perm_middle
/-- Where the rows are put together anew. -/
theorem putR_there {s : Int} {o : Od} {R : List Rw} (hs : s = 1 ∨ s = 2) (h : R.Pairwise (fun a b => betN s a.pr b.pr = true)) (hk : atN s o.price R < R.length) (hp : (R[atN s o.price R]!).pr = o.price) (v : Value) :
    PutR s o R (R.take (atN s o.price R) ++ ⟨o.price, v, putQ o (R[atN s o.price R]!).q⟩ :: R.drop (atN s o.price R + 1)) := by
  obtain ⟨h1, h2, h3, h4⟩ := row_split (p := o.price) hs h
  have e : R.drop (atN s o.price R) = R[atN s o.price R]! :: R.drop (atN s o.price R + 1) := by
    rw [getElem!_pos R _ hk, ← List.drop_eq_getElem_cons hk]
  refine ⟨R.take (atN s o.price R), R.drop (atN s o.price R + 1), _, [R[atN s o.price R]!], ?_, rfl, rfl, h1, h4 _ _ e hp, .inr ⟨_, rfl, hp, rfl⟩⟩
  rw [List.append_assoc, List.singleton_append, ← e, List.take_append_drop]
theorem putR_new {s : Int} {o : Od} {R : List Rw} (hs : s = 1 ∨ s = 2) (h : R.Pairwise (fun a b => betN s a.pr b.pr = true)) (hp : ¬ (atN s o.price R < R.length ∧ (R[atN s o.price R]!).pr = o.price)) (v : Value) :
    PutR s o R (R.take (atN s o.price R) ++ ⟨o.price, v, [o]⟩ :: R.drop (atN s o.price R)) := by
  obtain ⟨h1, h2, h3, h4⟩ := row_split (p := o.price) hs h
  refine ⟨R.take (atN s o.price R), R.drop (atN s o.price R), _, [], by rw [List.append_nil, List.take_append_drop], rfl, rfl, h1, ?_, .inl ⟨rfl, rfl⟩⟩
  by_cases hk : atN s o.price R < R.length
  · have e : R.drop (atN s o.price R) = R[atN s o.price R]! :: R.drop (atN s o.price R + 1) := by
      rw [getElem!_pos R _ hk, ← List.drop_eq_getElem_cons hk]
    have := h3 _ _ e (fun hq => hp ⟨hk, hq⟩)
    rwa [← e] at this
  · rw [List.drop_eq_nil_of_le (by omega)]
    intro b hb; cases hb
end Go.Proofs.YtgbmgdffgmablaaGreat

namespace Go.Proofs.YtgbmgdffgmablaaGreat
open Go.RowKit Go.Shelf Go.Sort

theorem Bk.gw {w w' : World} {b : Option Addr} {m : Option Nat} {s1 s2 : Sd} (h : Bk w b m s1 s2) (hf : Gw w w') : Bk w' b m s1 s2 := h.below hf.b
theorem Cl.gw {T : TypeId} {X Y : World} {c : Nat} {cs : Array Value} (h : Cl T X c cs) (hf : Gw X Y) : Cl T Y c cs := (hf.b.block _ (blk_lt h)).trans h
theorem Bk.own {w : World} {b : Option Addr} {m : Option Nat} {s1 s2 : Sd} (h : Bk w b m s1 s2) (sd : Int) : w.ownsRow 0 247 2 (rowsOf s1 s2 sd) (rsOf s1 s2 sd).length (rl (rsOf s1 s2 sd)) := by
  unfold rowsOf rsOf
  (repeat' split)
  · exact h.r1
  · exact h.r2
  · exact ⟨rfl, .inl ⟨rfl, rfl⟩⟩
/-- The block of an own row. -/
theorem own_blk {w : World} {base n size g : Nat} {T : TypeId} {v : Value} {xs : List Value} (h : w.ownsRow base T size v n xs) (hv : v.ownBlock = some g) : ∃ cs, w.heap[g]? = some (.cells cs T (0, 0)) := by
  rcases h.2 with ⟨e, _⟩ | ⟨k, cap, cur, e, hb, hk, _⟩
  · rw [e] at hv; cases hv
  · rw [e] at hv
    injection hv with hv
    subst hv
    exact ⟨cur, hk⟩
/-- A queue has got one more order, in its row or in a new one. -/
def InsOf (W4 w5 : World) (qv v' : Value) (qn : Nat) (q' : List Od) : Prop :=
  w5.ownsRow 0 38 6 v' (qn + 1) (ol q') ∧ W4.grownBy w5 qv.ownBlock ∧ (v'.ownBlock = qv.ownBlock ∨ v'.ownBlock = some W4.heap.size)
theorem put_mid {w2 W4 w5 : World} {g n c : Nat} {qv v' : Value} {qn : Nat} {q q' : List Od} {xs : List Value} (hR : w2.ownsRow 0 247 2 (.slice (some ⟨g, 0, none⟩) n c) n xs) (hq : w2.ownsRow 0 38 6 qv qn (ol q)) (G : Gw w2 W4) (hI : InsOf W4 w5 qv v' qn q') :
    w5.ownsRow 0 247 2 (.slice (some ⟨g, 0, none⟩) n c) n xs := by
  refine own_fr hR (S := fun j => qv.ownBlock = some j) ?_ (fun k hk e => ?_)
  · exact ((Fr.of_below G.b).grown hI.2.1 (fun j e => .inl e))
  · injection hk with hk
    subst hk
    obtain ⟨cs, hcs⟩ := own_blk hR rfl
    exact own_ne hq hcs (by decide) e
theorem put_cl {W4 w5 : World} {qv v' : Value} {qn ob : Nat} {q' : List Od} {o : Od} (hO : Cl 38 W4 ob (OC o)) (hq : ∀ j, qv.ownBlock = some j → j < ob) (hI : InsOf W4 w5 qv v' qn q') : Cl 38 w5 ob (OC o) :=
  (hI.2.1.block _ (blk_lt hO) (fun e => by have := hq ob e.symm; omega)).trans hO
/-- What is there when the row has got its queue. -/
theorem put_fin {w w2 W4 w5 : World} {g c : Nat} {qv v' : Value} {R : List Rw} {qn k : Nat} {q q' : List Od} {p : Int} (hk : k < R.length) (hp : (R[k]!).pr = p) (hR : w2.ownsRow 0 247 2 (.slice (some ⟨g, 0, none⟩) R.length c) R.length (rl R)) (hq : w2.ownsRow 0 38 6 qv qn (ol q)) (G2 : Gw w w2) (G : Gw w2 W4) (hI : InsOf W4 w5 qv v' qn q') :
    (w5.setCell ⟨g, k * 2 + 1, none⟩ v').ownsRow 0 38 6 v' (qn + 1) (ol q') ∧ (w5.setCell ⟨g, k * 2 + 1, none⟩ v').ownsRow 0 247 2 (.slice (some ⟨g, 0, none⟩) R.length c) R.length (rl (R.take k ++ ⟨p, v', q'⟩ :: R.drop (k + 1))) ∧
      Fr (fun j => (Value.slice (some ⟨g, 0, none⟩) R.length c).ownBlock = some j ∨ qv.ownBlock = some j) w (w5.setCell ⟨g, k * 2 + 1, none⟩ v') ∧ (v'.ownBlock = qv.ownBlock ∨ ∃ j, v'.ownBlock = some j ∧ w.heap.size ≤ j) := by
  have hR5 := put_mid hR hq G hI
  obtain ⟨cs, hcs⟩ := own_blk hR5 rfl
  refine ⟨?_, ?_, ?_, ?_⟩
  · exact own_fr hI.1 (S := fun j => j = g) ((Fr.refl (fun j => j = g) w5).set (p := ⟨g, k * 2 + 1, none⟩) (.inl rfl) _) (fun j hj e => by subst e; exact own_ne hI.1 hcs (by decide) hj)
  · rw [rl_set R k hk ⟨p, v', q'⟩ hp.symm]
    exact own_setCell hR5 rfl
  · refine Fr.set ?_ (p := ⟨g, k * 2 + 1, none⟩) (.inl (.inl rfl)) _
    exact (Fr.of_below (G2.trans G).b).grown hI.2.1 (fun j e => .inl (.inr e))
  · rcases hI.2.2 with e | e
    · exact .inl e
    · exact .inr ⟨_, e, (G2.trans G).b.size⟩
theorem six_of {T : TypeId} {W : World} {c : Nat} {o : Od} (h : Cl T W c (OC o)) : W.cell? ⟨c, 0, none⟩ = some (.int .u64 o.id) ∧ W.cell? ⟨c, 1, none⟩ = some (.int .i64 o.acc) ∧ W.cell? ⟨c, 2, none⟩ = some (.int .i64 o.side) ∧ W.cell? ⟨c, 3, none⟩ = some (.int .i64 o.price) ∧ W.cell? ⟨c, 4, none⟩ = some (.int .i64 o.qty) ∧ W.cell? ⟨c, 5, none⟩ = some (.int .u64 o.seq) :=
  ⟨(h.c 0).trans rfl, (h.c 1).trans rfl, (h.c 2).trans rfl, (h.c 3).trans rfl, (h.c 4).trans rfl, (h.c 5).trans rfl⟩
/-- Where the k-th row lies, and its queue. -/
theorem row_at {w : World} {v : Value} {R : List Rw} (h : w.ownsRow 0 247 2 v R.length (rl R)) {k : Nat} (hk : k < R.length) : ∃ g c, v = .slice (some ⟨g, 0, none⟩) R.length c ∧ w.cell? ⟨g, k * 2, none⟩ = some (.int .i64 (R[k]!).pr) ∧ w.cell? ⟨g, k * 2 + 1, none⟩ = some (R[k]!).v := by
  obtain ⟨A, c, hv, hr⟩ := own_rows h
  rcases hr.2 with h0 | ⟨g, rfl, _, hc⟩
  · omega
  · exact ⟨g, c, hv, hc k hk⟩
set_option maxHeartbeats 4000000 in
set_option maxRecDepth 100000 in
theorem put_there (p m : Nat) (s1 s2 : Sd) (sd : Int) (o : Od) (w : World) (H : Bk w (some ⟨p, 0, none⟩) (some m) s1 s2) (hsd : o.side = sd) (hwf : (Lit.int .i64 sd).wf = true) (R : List Rw) (hR : rsOf s1 s2 sd = R) (hs : R.Pairwise (fun a b => betN sd a.pr b.pr = true))
    (hn : R.length ≤ 1000) (k : Nat) (hk : atN sd o.price R = k) (hkl : k < R.length) (hp : (R[k]!).pr = o.price) (hq : (R[k]!).q.Pairwise (fun x y => ahdO x y = true)) (hql : (R[k]!).q.length ≤ 1000) :
    Calls Tryz.prog 178 #[.pointer (some ⟨p, 0, none⟩), .agg #[.int .u64 o.id, .int .i64 o.acc, .int .i64 o.side, .int .i64 o.price, .int .i64 o.qty, .int .u64 o.seq]] w fun e w' => e = .returned (.tuple #[]) ∧ ∃ v', Hid (w'.ownsRow 0 38 6 v' ((R[k]!).q.length + 1) (ol (putQ o (R[k]!).q)) ∧
      w'.ownsRow 0 247 2 (rowsOf s1 s2 sd) R.length (rl (R.take k ++ ⟨o.price, v', putQ o (R[k]!).q⟩ :: R.drop (k + 1))) ∧ Fr (fun j => (rowsOf s1 s2 sd).ownBlock = some j ∨ (R[k]!).v.ownBlock = some j) w w' ∧ (v'.ownBlock = (R[k]!).v.ownBlock ∨ ∃ j, v'.ownBlock = some j ∧ w.heap.size ≤ j)) := by
  have mixed : Tryz.prog.follows .mixedOrders = true := by kernel_rfl
  subst hsd
  have hmem : R[k]! ∈ s1.rs ++ s2.rs := by
    rw [getElem!_pos R k hkl]
    exact rsOf_mem (by rw [hR]; exact List.getElem_mem hkl)
  obtain ⟨Q, hQd⟩ : ∃ Q, (R[k]!).q = Q := ⟨_, rfl⟩
  obtain ⟨V, hVd⟩ : ∃ V, (R[k]!).v = V := ⟨_, rfl⟩
  rw [hQd] at hq hql ⊢
  rw [hVd]
  obtain ⟨w0, hw0⟩ : ∃ w0, w.alloc (.cells #[.int .u64 o.id, .int .i64 o.acc, .int .i64 o.side, .int .i64 o.price, .int .i64 o.qty, .int .u64 o.seq] 38) = w0 := ⟨_, rfl⟩
  have G0 : Gw w w0 := by rw [← hw0]; exact (Gw.refl w).alloc _
  have hO0 : Cl 38 w0 w.heap.size (OC o) := by rw [← hw0]; exact hd_last rfl
  obtain ⟨x0, x1, x2, x3, x4, x5⟩ := six_of hO0
  obtain ⟨pp, hpp, hpc⟩ : ∃ pp, some (⟨p, 0, none⟩ : Addr) = some ⟨pp, 0, none⟩ ∧ w0.cell? ⟨p, 0, none⟩ = some (.map (some m)) := by
    rcases (H.gw G0).shape with ⟨h, _⟩ | ⟨pp, hb, hp⟩
    · cases h
    · injection hb with hb'
      injection hb' with hb''
      subst hb''
      exact ⟨p, rfl, by rw [cell_of_row _ _ _ _ _ _ hp]; rfl⟩
  clear hpp
  have hlk := fun q => look_side ((H.gw (G0.trans ⟨below_drewN (Below.refl _ _) q, Nat.le_add_right _ _⟩)).mp m rfl) H.t1 H.t2 o.side hwf
  have hown := (H.gw G0).own o.side
  rw [hR] at hown
  obtain ⟨g, c, hv, hc1, hc2⟩ := row_at hown hkl
  rw [hv] at hown hlk
  have HF : ∀ q, Calls Tryz.prog 181 #[.slice (some ⟨g, 0, none⟩) R.length c, .int .i64 o.side, .int .i64 o.price] (w0.drewN q) fun e w' => e = .returned (.tuple #[.int .i64 (k : Nat), .bool true]) ∧ Gw (w0.drewN q) w' := fun q => by
    have := find_c (some ⟨g, 0, none⟩) R.length c R o.side o.price (w0.drewN q) ?_ hs hn
    · rw [hk, decide_eq_true hkl, hp] at this
      simpa using this
    · obtain ⟨A, c', hv', hr⟩ := own_rows hown
      injection hv' with e1 e2 e3
      rw [e1]
      exact hr
  have HF' := Lib.hid HF
  have HH := Lib.hid H
  have H2 : Hid (∀ {k : Nat}, foot (some ⟨p, 0, none⟩) (some m) s1 s2 k → k < w.heap.size) := fun hk => H.lt hk
  have HGf : Hid (g < w.heap.size) := by
    obtain ⟨A, c', hv', _, hf⟩ := H.rows o.side
    rw [hR] at hv' hf
    rw [hv] at hv'
    injection hv' with e1 e2 e3
    exact H.lt (hf g e1.symm (by omega))
  have hqm := (H.gw G0).q _ hmem
  rw [hQd, hVd] at hqm
  obtain ⟨qa, qc, hqv, hqa⟩ := own_que hqm
  clear hqm
  obtain ⟨qn, hqn⟩ : ∃ qn, Q.length = qn := ⟨_, rfl⟩
  rw [hqn] at hqv hqa hql
  rw [hVd, hqv] at hc2
  obtain ⟨ob, hob⟩ : ∃ ob, w.heap.size = ob := ⟨_, rfl⟩
  rw [hob] at hO0 x0 x1 x2 x3 x4 x5
  clear H HF
  go_enter Tryz.func178, Tryz.ntmps178
  go_wp2_with fail
  go_quiet (fail)
  go_wp2_with ((with_reducible refine (HF'.out _).mono ?_); rintro e w2 ⟨rfl, k2⟩; have G2 : Hid (Gw w w2) := (G0.trans ⟨below_drewN (Below.refl _ _) _, Nat.le_add_right _ _⟩).trans k2; have G02 : Gw w0 w2 := Gw.trans ⟨below_drewN (Below.refl _ _) _, Nat.le_add_right _ _⟩ k2; obtain ⟨y0, y1, y2, y3, y4, y5⟩ := six_of (hO0.gw G02); have hcq : w2.cell? ⟨g, k * 2 + 1, none⟩ = some (.slice qa qn qc) := cell_keep (S := fun _ => False) (Fr.of_below G02.b) (fun h => h) hc2; have hO : Cl 38 w2 ob (OC o) := hO0.gw G02; have HR : Hid (w2.ownsRow 0 247 2 (.slice (some ⟨g, 0, none⟩) R.length c) R.length (rl R)) := (by have := (HH.out.gw G2.out).own o.side; rw [hR, hv] at this; exact this); have HQ : Hid (w2.ownsRow 0 38 6 (.slice qa qn qc) qn (ol Q)) := (by have := (HH.out.gw G2.out).q _ hmem; rw [hQd, hVd, hqv, hqn] at this; exact this); clear x0 x1 x2 x3 x4 x5 hpc hlk hc1 hc2 k2)
  obtain ⟨J, hJ⟩ : ∃ J, plN o Q = J := ⟨_, rfl⟩
  obtain ⟨Q', hQ'⟩ : ∃ Q', putQ o Q = Q' := ⟨_, rfl⟩
  have HP : Hid (∀ W, Gw w2 W → Calls Tryz.prog 182 #[.slice qa qn qc, .agg #[.int .u64 o.id, .int .i64 o.acc, .int .i64 o.side, .int .i64 o.price, .int .i64 o.qty, .int .u64 o.seq]] W fun e w' => e = .returned (.int .i64 (J : Nat)) ∧ Gw W w') := fun W hW => by rw [← hJ]; exact place_c qa qn qc _ o W (by obtain ⟨A, c', hv', hq'⟩ := own_que (own_fr HQ.out (S := fun _ => False) (Fr.of_below hW.b) (fun _ _ h => h)); injection hv' with e1 e2 e3; rw [e1]; exact hq') hq hql
  have HI : Hid (∀ W4 vb, Gw w2 W4 → w2.heap.size ≤ vb → Cl 38 W4 vb (OC o) → Calls Tryz.prog 186 #[.slice qa qn qc, .int .i64 (J : Nat), .slice (some ⟨vb, 0, none⟩) 1 1] W4 fun e w5 => ∃ v', e = .returned v' ∧ Hid (InsOf W4 w5 (.slice qa qn qc) v' qn Q')) := fun W4 vb hG hle hvb => by
    have hq4 : W4.ownsRow 0 38 6 (.slice qa qn qc) qn (ol Q) := own_fr HQ.out (S := fun _ => False) (Fr.of_below hG.b) (fun _ _ h => h)
    rw [← hJ]
    refine (ins_O W4 0 qn (plN o Q) (.slice qa qn qc) (ol Q) (encO o) vb hq4 (Nat.zero_le _) hql (by rw [← hqn]; exact pl_le o Q) (fun e => by have := (own_lt HQ.out vb e).2; omega) hvb rfl (ol_one Q) (enc_one o)).mono fun e w5 ⟨v', he, h⟩ => ⟨v', he, Lib.hid ⟨?_, h.out.2.1, h.out.2.2⟩⟩
    have := h.out.1
    rw [ol_putQ, hQ'] at this
    exact this
  have HV := Lib.hid (And.intro hv (And.intro hqv (And.intro hqn hQ')))
  have HB : Hid (∀ j, (Value.slice qa qn qc).ownBlock = some j → j < ob) := fun j hj => by
    rw [← hob]; exact H2.out (.inr (.inr (.inr (.inr ⟨_, hmem, by rw [hVd, hqv]; exact hj⟩))))
  have HK := Lib.hid (And.intro hkl hp)
  have HC : Hid ((rl R)[k * 2 + 1]? = some (.slice qa qn qc)) := by
    have := rl_get R k 1 hkl (by omega)
    rw [show k * 2 + 1 = k * 2 + 1 from rfl, this, ← hqv, ← hVd]
    rfl
  have HG : Hid (ob ≠ g) := by
    have := HGf.out
    show ob ≠ g
    omega
  refine wp_region_held_drew (S := fun W => Cl 38 W ob (OC o)) (by kernel_rfl) (hd_drew hO) (fun hHeld => ?_)
  refine wpAnyH_take (i := 0) (oi := ⟨some 45, _, _, _, _, _⟩) (v := ?_) rfl (by kernel_rfl) (by kernel_rfl) (by kernel_rfl) (fun _ _ _ h => h) (Or.inl ⟨by kernel_rfl, ?_⟩) (by assumption) ?_
  rotate_left
  · (intro w hSw; obtain ⟨hs0, hs1, hs2, hs3, hs4, hs5⟩ := six_of hSw; clear hSw; go_simp; try with_reducible rfl)
  (repeat (first | simp only [Act.put] | simp only [List.setIfInBounds_toArray] | simp only [List.set_cons_succ] | simp only [List.set_cons_zero]))
  refine wpAnyH_take (i := 1) (oi := ⟨some 46, _, _, _, _, _⟩) (v := ?_) rfl (by kernel_rfl) (by kernel_rfl) (by kernel_rfl) (fun _ _ _ h => h) (Or.inl ⟨by kernel_rfl, ?_⟩) (by assumption) ?_
  rotate_left
  · (intro w hSw; obtain ⟨hs0, hs1, hs2, hs3, hs4, hs5⟩ := six_of hSw; clear hSw; go_simp; try with_reducible rfl)
  (repeat (first | simp only [Act.put] | simp only [List.setIfInBounds_toArray] | simp only [List.set_cons_succ] | simp only [List.set_cons_zero]))
  refine wpAnyH_take (i := 2) (oi := ⟨some 47, _, _, _, _, _⟩) (v := ?_) rfl (by kernel_rfl) (by kernel_rfl) (by kernel_rfl) (fun _ _ _ h => h) (Or.inl ⟨by kernel_rfl, ?_⟩) (by assumption) ?_
  rotate_left
  · (intro w hSw; obtain ⟨hs0, hs1, hs2, hs3, hs4, hs5⟩ := six_of hSw; clear hSw; go_simp; try with_reducible rfl)
  (repeat (first | simp only [Act.put] | simp only [List.setIfInBounds_toArray] | simp only [List.set_cons_succ] | simp only [List.set_cons_zero]))
  refine wpAnyH_take (i := 3) (oi := ⟨some 48, _, _, _, _, _⟩) (v := ?_) rfl (by kernel_rfl) (by kernel_rfl) (by kernel_rfl) (fun _ _ _ h => h) (Or.inl ⟨by kernel_rfl, ?_⟩) (by assumption) ?_
  rotate_left
  · (intro w hSw; obtain ⟨hs0, hs1, hs2, hs3, hs4, hs5⟩ := six_of hSw; clear hSw; go_simp; try with_reducible rfl)
  (repeat (first | simp only [Act.put] | simp only [List.setIfInBounds_toArray] | simp only [List.set_cons_succ] | simp only [List.set_cons_zero]))
  refine wpAnyH_take (i := 4) (oi := ⟨some 49, _, _, _, _, _⟩) (v := ?_) rfl (by kernel_rfl) (by kernel_rfl) (by kernel_rfl) (fun _ _ _ h => h) (Or.inl ⟨by kernel_rfl, ?_⟩) (by assumption) ?_
  rotate_left
  · (intro w hSw; obtain ⟨hs0, hs1, hs2, hs3, hs4, hs5⟩ := six_of hSw; clear hSw; go_simp; try with_reducible rfl)
  (repeat (first | simp only [Act.put] | simp only [List.setIfInBounds_toArray] | simp only [List.set_cons_succ] | simp only [List.set_cons_zero]))
  refine wpAnyH_take (i := 6) (oi := ⟨some 51, _, _, _, _, _⟩) (v := ?_) rfl (by kernel_rfl) (by kernel_rfl) (by kernel_rfl) (fun _ _ _ h => h) (Or.inl ⟨by kernel_rfl, ?_⟩) (by assumption) ?_
  rotate_left
  · (intro w hSw; obtain ⟨hs0, hs1, hs2, hs3, hs4, hs5⟩ := six_of hSw; clear hSw; go_simp; try with_reducible rfl)
  (repeat (first | simp only [Act.put] | simp only [List.setIfInBounds_toArray] | simp only [List.set_cons_succ] | simp only [List.set_cons_zero]))
  refine wpAnyH_ready (rs := [5, 7]) (by kernel_rfl) (by simp) ?_
  refine AllReadyH.cons (o := ⟨some 50, _, _, _, _, _⟩) rfl (fun K hK => ?_) (AllReadyH.cons (o := ⟨some 52, _, _, _, _, _⟩) rfl (fun K hK => ?_) AllReadyH.nil)
  · go_simp
    have hg0 : Gw w2 w2.drew := ⟨(Below.refl _ _).drew, Nat.le_succ _⟩
    refine (HP.out _ hg0).mono ?_
    rintro e w3 ⟨rfl, k3⟩
    have hO3 := Cl.gw hHeld k3
    have hg3 := hg0.trans k3
    refine hK.out _ _ (by exact hO3) (fun hHeld => ?_)
    clear hK K
    (repeat (first | simp only [Act.put] | simp only [List.setIfInBounds_toArray] | simp only [List.set_cons_succ] | simp only [List.set_cons_zero]))
    refine wpAnyH_ready (rs := [7]) (by kernel_rfl) (by simp) ?_
    refine AllReadyH.cons (o := ⟨some 52, _, _, _, _, _⟩) rfl (fun K hK => ?_) AllReadyH.nil
    go_simp
    (try go_wp2_with fail)
    refine hK.out _ _ (by exact hd_prev (blk_lt hO3) hO3) (fun hHeld => ?_)
    clear hK K
    (repeat (first | simp only [Act.put] | simp only [List.setIfInBounds_toArray] | simp only [List.set_cons_succ] | simp only [List.set_cons_zero]))
    refine wpAnyH_ready (rs := [8]) (by kernel_rfl) (by simp) ?_
    refine AllReadyH.cons (o := ⟨some 53, _, _, _, _, _⟩) rfl (fun K hK => ?_) AllReadyH.nil
    go_simp
    have hG4 : Gw w2 (w3.alloc (.cells (OC o) 38)) := hg3.alloc _
    refine (HI.out (w3.alloc (.cells (OC o) 38)) w3.heap.size hG4 (hg3.b.size) (hd_last rfl)).mono ?_
    rintro e w5 ⟨v', rfl, hI⟩
    have hO5 := put_cl hHeld HB.out hI.out
    obtain ⟨va, vc, rfl, _⟩ := own_que2 hI.out.1
    have hR5 := put_mid HR.out HQ.out hG4 hI.out
    obtain ⟨z0, f0⟩ := own_cell hR5 rfl HC.out
    skip
    refine hK.out _ _ (by exact hO5) (fun hHeld => ?_)
    clear hK K
    (repeat (first | simp only [Act.put] | simp only [List.setIfInBounds_toArray] | simp only [List.set_cons_succ] | simp only [List.set_cons_zero]))
    refine wpAnyH_take (i := 9) (oi := ⟨some 54, _, _, _, _, _⟩) (v := ?_) rfl (by kernel_rfl) (by kernel_rfl) (by kernel_rfl) (fun _ _ _ h => h) (Or.inl ⟨by kernel_rfl, ?_⟩) (by assumption) ?_
    rotate_left
    · (intro w hSw; obtain ⟨hs0, hs1, hs2, hs3, hs4, hs5⟩ := six_of hSw; clear hSw; go_simp; try with_reducible rfl)
    (repeat (first | simp only [Act.put] | simp only [List.setIfInBounds_toArray] | simp only [List.set_cons_succ] | simp only [List.set_cons_zero]))
    refine wpAnyH_take (i := 10) (oi := ⟨some 55, _, _, _, _, _⟩) (v := ?_) rfl (by kernel_rfl) (by kernel_rfl) (by kernel_rfl) (fun _ _ _ h => h) (Or.inl ⟨by kernel_rfl, ?_⟩) (by assumption) ?_
    rotate_left
    · (intro w hSw; obtain ⟨hs0, hs1, hs2, hs3, hs4, hs5⟩ := six_of hSw; clear hSw; go_simp; try with_reducible rfl)
    (repeat (first | simp only [Act.put] | simp only [List.setIfInBounds_toArray] | simp only [List.set_cons_succ] | simp only [List.set_cons_zero]))
    refine wpAnyH_ready (rs := [11]) (by kernel_rfl) (by simp) ?_
    refine AllReadyH.cons (o := ⟨none, _, _, _, _, _⟩) rfl (fun K hK => ?_) AllReadyH.nil
    go_simp
    (try go_wp2_with fail)
    refine hK.out _ _ (by exact (heap_far (a := ⟨g, k * 2 + 1, none⟩) HG.out).trans hO5) (fun hHeld => ?_)
    clear hK K
    (repeat (first | simp only [Act.put] | simp only [List.setIfInBounds_toArray] | simp only [List.set_cons_succ] | simp only [List.set_cons_zero]))
    refine wpAnyH_done (by kernel_rfl) ?_ _
    have HF := Lib.hid (put_fin HK.out.1 HK.out.2 HR.out HQ.out G2.out hG4 hI.out)
    clear hO5 hR5 z0 f0 hI hHeld
    go_wp2_with fail
    go_end0
    refine ⟨rfl, .slice va (qn + 1) vc, Lib.hid ?_⟩
    rw [HV.out.1, HV.out.2.1, HV.out.2.2.1, HV.out.2.2.2]
    exact HF.out
  · go_simp
    have hg0 : Gw w2 w2.drew := ⟨(Below.refl _ _).drew, Nat.le_succ _⟩
    have hO3 : Cl 38 (w2.drew.alloc (.cells (OC o) 38)) ob (OC o) := hd_prev (blk_lt hHeld) hHeld
    (try go_wp2_with fail)
    refine hK.out _ _ (by exact hO3) (fun hHeld => ?_)
    clear hK K
    (repeat (first | simp only [Act.put] | simp only [List.setIfInBounds_toArray] | simp only [List.set_cons_succ] | simp only [List.set_cons_zero]))
    refine wpAnyH_ready (rs := [5]) (by kernel_rfl) (by simp) ?_
    refine AllReadyH.cons (o := ⟨some 50, _, _, _, _, _⟩) rfl (fun K hK => ?_) AllReadyH.nil
    go_simp
    refine (HP.out _ (hg0.alloc _)).mono ?_
    rintro e w3 ⟨rfl, k3⟩
    have hO4 := Cl.gw hHeld k3
    have hv3 : Cl 38 w3 w2.heap.size (OC o) := Cl.gw (X := w2.drew.alloc (.cells (OC o) 38)) (hd_last rfl) k3
    refine hK.out _ _ (by exact hO4) (fun hHeld => ?_)
    clear hK K
    (repeat (first | simp only [Act.put] | simp only [List.setIfInBounds_toArray] | simp only [List.set_cons_succ] | simp only [List.set_cons_zero]))
    refine wpAnyH_ready (rs := [8]) (by kernel_rfl) (by simp) ?_
    refine AllReadyH.cons (o := ⟨some 53, _, _, _, _, _⟩) rfl (fun K hK => ?_) AllReadyH.nil
    go_simp
    have hG4 : Gw w2 w3 := (hg0.alloc _).trans k3
    refine (HI.out w3 w2.heap.size hG4 (Nat.le_refl _) (hv3)).mono ?_
    rintro e w5 ⟨v', rfl, hI⟩
    have hO5 := put_cl hHeld HB.out hI.out
    obtain ⟨va, vc, rfl, _⟩ := own_que2 hI.out.1
    have hR5 := put_mid HR.out HQ.out hG4 hI.out
    obtain ⟨z0, f0⟩ := own_cell hR5 rfl HC.out
    skip
    refine hK.out _ _ (by exact hO5) (fun hHeld => ?_)
    clear hK K
    (repeat (first | simp only [Act.put] | simp only [List.setIfInBounds_toArray] | simp only [List.set_cons_succ] | simp only [List.set_cons_zero]))
    refine wpAnyH_take (i := 9) (oi := ⟨some 54, _, _, _, _, _⟩) (v := ?_) rfl (by kernel_rfl) (by kernel_rfl) (by kernel_rfl) (fun _ _ _ h => h) (Or.inl ⟨by kernel_rfl, ?_⟩) (by assumption) ?_
    rotate_left
    · (intro w hSw; obtain ⟨hs0, hs1, hs2, hs3, hs4, hs5⟩ := six_of hSw; clear hSw; go_simp; try with_reducible rfl)
    (repeat (first | simp only [Act.put] | simp only [List.setIfInBounds_toArray] | simp only [List.set_cons_succ] | simp only [List.set_cons_zero]))
    refine wpAnyH_take (i := 10) (oi := ⟨some 55, _, _, _, _, _⟩) (v := ?_) rfl (by kernel_rfl) (by kernel_rfl) (by kernel_rfl) (fun _ _ _ h => h) (Or.inl ⟨by kernel_rfl, ?_⟩) (by assumption) ?_
    rotate_left
    · (intro w hSw; obtain ⟨hs0, hs1, hs2, hs3, hs4, hs5⟩ := six_of hSw; clear hSw; go_simp; try with_reducible rfl)
    (repeat (first | simp only [Act.put] | simp only [List.setIfInBounds_toArray] | simp only [List.set_cons_succ] | simp only [List.set_cons_zero]))
    refine wpAnyH_ready (rs := [11]) (by kernel_rfl) (by simp) ?_
    refine AllReadyH.cons (o := ⟨none, _, _, _, _, _⟩) rfl (fun K hK => ?_) AllReadyH.nil
    go_simp
    (try go_wp2_with fail)
    refine hK.out _ _ (by exact (heap_far (a := ⟨g, k * 2 + 1, none⟩) HG.out).trans hO5) (fun hHeld => ?_)
    clear hK K
    (repeat (first | simp only [Act.put] | simp only [List.setIfInBounds_toArray] | simp only [List.set_cons_succ] | simp only [List.set_cons_zero]))
    refine wpAnyH_done (by kernel_rfl) ?_ _
    have HF := Lib.hid (put_fin HK.out.1 HK.out.2 HR.out HQ.out G2.out hG4 hI.out)
    clear hO5 hR5 z0 f0 hI hHeld
    go_wp2_with fail
    go_end0
    refine ⟨rfl, .slice va (qn + 1) vc, Lib.hid ?_⟩
    rw [HV.out.1, HV.out.2.1, HV.out.2.2.1, HV.out.2.2.2]
    exact HF.out
end Go.Proofs.YtgbmgdffgmablaaGreat

namespace Go.Proofs.YtgbmgdffgmablaaGreat
open Go.RowKit Go.Shelf Go.Sort Go.Maps

theorem row_one (r : Rw) : ∀ u ∈ r.cs, r.v.oneCell' = true → u.oneCell' = true := by
  intro u hu hv
  rcases List.mem_cons.1 hu with rfl | hu
  · rfl
  · rw [List.mem_singleton.1 hu]; exact hv
theorem rows_one {w : World} {R : List Rw} (h : ∀ r ∈ R, w.ownsRow 0 38 6 r.v r.q.length (ol r.q)) : ∀ u ∈ rl R, u.oneCell' = true := by
  intro u hu
  obtain ⟨r, hr, hu⟩ := List.mem_flatMap.1 hu
  obtain ⟨A, c, hv, _⟩ := own_que2 (h r hr)
  exact row_one r u hu (by rw [hv]; rfl)
def RowIns (W w3 : World) (v v2 : Value) (N : Nat) (R2 : List Rw) : Prop :=
  w3.ownsRow 0 247 2 v2 N (rl R2) ∧ W.grownBy w3 v.ownBlock ∧ (v2.ownBlock = v.ownBlock ∨ v2.ownBlock = some W.heap.size)
theorem ins_keep {W w3 : World} {v : Value} {base n : Nat} {xs : List Value} (hr : W.ownsRow base 247 2 v n xs) (hg : W.grownBy w3 v.ownBlock) {j : Nat} {o : Obj} (h : W.heap[j]? = some o) (hne : ∀ cs, o ≠ .cells cs 247 (0, 0)) : w3.heap[j]? = some o :=
  (hg.block j (blk_lt h) (fun e => by
    obtain ⟨cs, hcs⟩ := own_blk hr e.symm
    rw [h] at hcs
    exact hne cs (Option.some.inj hcs))).trans h
theorem map_keep {W w3 : World} {v : Value} {base n b k : Nat} {xs : List Value} {D : DataW Value} (hr : W.ownsRow base 247 2 v n xs) (hg : W.grownBy w3 v.ownBlock) (h : W.ownsMap Tryz.prog 3 RV b k D) : w3.ownsMap Tryz.prog 3 RV b k D := by
  obtain ⟨es, clock, hb, F, hs, hD⟩ := h
  exact ⟨es, clock, ins_keep hr hg hb (fun cs e => by cases e), F, hs, hD⟩
theorem turn_keep {W w4 : World} {m j : Nat} (ht : W.mapTurned w4 m) {cs : Array Value} {T : TypeId} (h : W.heap[j]? = some (.cells cs T (0, 0))) : w4.heap[j]? = some (.cells cs T (0, 0)) := by
  refine (ht.grown.block j (blk_lt h) (fun e => ?_)).trans h
  injection e with e
  subst e
  obtain ⟨es, clock, _, _, hb, _⟩ := ht
  rw [h] at hb; cases hb
theorem turn_cell {W w4 : World} {m j k : Nat} {u : Value} (ht : W.mapTurned w4 m) (h : W.cell? ⟨j, k, none⟩ = some u) : w4.cell? ⟨j, k, none⟩ = some u := by
  cases e : W.heap[j]? with
  | none => simp [World.cell?, e] at h
  | some ob =>
    cases ob with
    | cells cs T fz =>
      have hj := World.block_lt_of_cell? W ⟨j, k, none⟩ h
      have : w4.heap[j]? = W.heap[j]? := ht.grown.block j hj (fun e' => by
        injection e' with e'
        subst e'
        obtain ⟨es, clock, _, _, hb, _⟩ := ht
        rw [e] at hb; cases hb)
      rw [World.cell?_of_block (w := W) (a := ⟨j, k, none⟩) this]; exact h
    | _ => simp [World.cell?, e] at h
theorem own_turn {W w4 : World} {m base n size : Nat} {T : TypeId} {v : Value} {xs : List Value} (ht : W.mapTurned w4 m) (h : W.ownsRow base T size v n xs) : w4.ownsRow base T size v n xs := by
  obtain ⟨h1, h2⟩ := h
  refine ⟨h1, ?_⟩
  rcases h2 with hn | ⟨k, cap, cur, rfl, hb, hk, rest⟩
  · exact .inl hn
  · exact .inr ⟨k, cap, cur, rfl, hb, turn_keep ht hk, rest⟩
/-- What there is when a row was put in, with an order. -/
def NewIs (w w' : World) (m : Nat) (D : DataW Value) (v v2 v' : Value) (R : List Rw) (k : Nat) (o : Od) : Prop :=
  w'.ownsRow 0 38 6 v' 1 (ol [o]) ∧ w'.ownsRow 0 247 2 v2 (R.length + 1) (rl (R.take k ++ ⟨o.price, v', [o]⟩ :: R.drop k)) ∧
    w'.ownsMap Tryz.prog 3 RV m 3 (D.put (.int .i64 o.side) (.held v2)) ∧ Fr (fun j => j = m ∨ v.ownBlock = some j) w w' ∧ (∃ j, v'.ownBlock = some j ∧ w.heap.size ≤ j) ∧ (v2.ownBlock = v.ownBlock ∨ ∃ j, v2.ownBlock = some j ∧ w.heap.size ≤ j)
theorem new_end {w w1 w3 w2 W6 : World} {m g c k : Nat} {D : DataW Value} {v v' : Value} {R R2 : List Rw} {o : Od} (G : Gw w w1) (hI : RowIns w1 w3 v (.slice (some ⟨g, 0, none⟩) R2.length c) R2.length R2) (hturn : w3.drew.mapTurned w2 m)
    (hown2 : w2.ownsMap Tryz.prog 3 RV m 3 (D.put (.int .i64 o.side) (.held (.slice (some ⟨g, 0, none⟩) R2.length c)))) (hR2 : R.take k ++ (⟨o.price, v0, []⟩ : Rw) :: R.drop k = R2) (hk : k ≤ R.length)
    (F : W6.ownsRow 0 38 6 v' (0 + 1) (ol [o]) ∧ W6.ownsRow 0 247 2 (.slice (some ⟨g, 0, none⟩) R2.length c) R2.length (rl (R2.take k ++ ⟨o.price, v', [o]⟩ :: R2.drop (k + 1))) ∧
      Fr (fun j => (Value.slice (some ⟨g, 0, none⟩) R2.length c).ownBlock = some j ∨ v0.ownBlock = some j) w2 W6 ∧ (v'.ownBlock = v0.ownBlock ∨ ∃ j, v'.ownBlock = some j ∧ w2.heap.size ≤ j)) :
    NewIs w W6 m D v (.slice (some ⟨g, 0, none⟩) R2.length c) v' R k o := by
  obtain ⟨f1, f2, f3, f4⟩ := F
  have hl2 : R2.length = R.length + 1 := by rw [← hR2, List.length_append, List.length_take, List.length_cons, List.length_drop]; omega
  have ht : R2.take k = R.take k := by
    rw [← hR2, List.take_append_of_le_length (by rw [List.length_take]; omega), List.take_take, Nat.min_self]
  have hd : R2.drop (k + 1) = R.drop k := by
    have : (R.take k).length = k := by rw [List.length_take]; omega
    rw [← hR2, List.drop_append, this, List.drop_eq_nil_of_le (by omega), List.nil_append, show k + 1 - k = 1 by omega]
    rfl
  rw [ht, hd] at f2
  have hr2 : w2.ownsRow 0 247 2 (.slice (some ⟨g, 0, none⟩) R2.length c) R2.length (rl R2) := own_turn hturn (show w3.drew.ownsRow _ _ _ _ _ _ from hI.1)
  have hgm : m ≠ g := by
    intro e
    obtain ⟨cs, hcs⟩ := own_blk hr2 (show _ = some g from rfl)
    obtain ⟨es, clock, hb, _⟩ := hown2
    rw [e, hcs] at hb; cases hb
  have h23 : w1.heap.size ≤ w2.heap.size := Nat.le_trans hI.2.1.size hturn.grown.size
  refine ⟨f1, by rw [← hl2]; exact f2, ownsMap_fr hown2 f3 (fun h => by rcases h with h | h; injection h with h; exact hgm h.symm; cases h), ?_, ?_, ?_⟩
  · have a1 : Fr (fun j => j = m ∨ v.ownBlock = some j) w w3 := (Fr.of_below G.b).grown hI.2.1 (fun j e => .inl (.inr e))
    have a2 : Fr (fun j => j = m ∨ v.ownBlock = some j) w w2 := a1.drew.grown hturn.grown (fun j e => by injection e with e; exact .inl (.inl e.symm))
    refine a2.trans f3 (fun j h => ?_)
    rcases h with h | h
    · rcases hI.2.2 with e | e
      · rw [e] at h; exact .inl (.inr h)
      · rw [e] at h
        injection h with h
        exact .inr (by have := G.b.size; omega)
    · cases h
  · rcases f4 with e | ⟨j, e, hj⟩
    · rcases f1.2 with ⟨_, h0⟩ | ⟨q, cap, cur, hv, _⟩
      · cases h0
      · rw [hv] at e; cases e
    · exact ⟨j, e, by have := G.b.size; omega⟩
  · rcases hI.2.2 with e | e
    · exact .inl e
    · exact .inr ⟨_, e, G.b.size⟩
set_option maxHeartbeats 4000000 in
set_option maxRecDepth 100000 in
theorem put_new (p m : Nat) (s1 s2 : Sd) (o : Od) (w : World) (H : Bk w (some ⟨p, 0, none⟩) (some m) s1 s2) (hwf : (Lit.int .i64 o.side).wf = true) (R : List Rw) (hR : rsOf s1 s2 o.side = R) (hs : R.Pairwise (fun a b => betN o.side a.pr b.pr = true))
    (hn : R.length ≤ 1000) (k : Nat) (hk : atN o.side o.price R = k) (hno : ¬ (k < R.length ∧ (R[k]!).pr = o.price)) :
    Calls Tryz.prog 178 #[.pointer (some ⟨p, 0, none⟩), .agg #[.int .u64 o.id, .int .i64 o.acc, .int .i64 o.side, .int .i64 o.price, .int .i64 o.qty, .int .u64 o.seq]] w fun e w' => e = .returned (.tuple #[]) ∧ ∃ v2 v', Hid (NewIs w w' m (mapD s1 s2) (rowsOf s1 s2 o.side) v2 v' R k o) := by
  have mixed : Tryz.prog.follows .mixedOrders = true := by kernel_rfl
  have hkl : k ≤ R.length := by rw [← hk]; exact at_le _ _ _
  obtain ⟨w0, hw0⟩ : ∃ w0, w.alloc (.cells #[.int .u64 o.id, .int .i64 o.acc, .int .i64 o.side, .int .i64 o.price, .int .i64 o.qty, .int .u64 o.seq] 38) = w0 := ⟨_, rfl⟩
  have G0 : Gw w w0 := by rw [← hw0]; exact (Gw.refl w).alloc _
  have hO0 : Cl 38 w0 w.heap.size (OC o) := by rw [← hw0]; exact hd_last rfl
  obtain ⟨x0, x1, x2, x3, x4, x5⟩ := six_of hO0
  obtain ⟨hpl, hpc⟩ : p < w.heap.size ∧ w0.cell? ⟨p, 0, none⟩ = some (.map (some m)) := by
    refine ⟨H.lt (.inl rfl), ?_⟩
    rcases (H.gw G0).shape with ⟨h, _⟩ | ⟨pp, hb, hp⟩
    · cases h
    · injection hb with hb'
      injection hb' with hb''
      subst hb''
      rw [cell_of_row _ _ _ _ _ _ hp]; rfl
  have hlk := fun q => look_side ((H.gw (G0.trans ⟨below_drewN (Below.refl _ _) q, Nat.le_add_right _ _⟩)).mp m rfl) H.t1 H.t2 o.side hwf
  have hown := (H.gw G0).own o.side
  rw [hR] at hown
  obtain ⟨A, c0, hv, hra⟩ := own_rows hown
  rw [hv] at hown hlk
  have HF : ∀ q, Calls Tryz.prog 181 #[.slice A R.length c0, .int .i64 o.side, .int .i64 o.price] (w0.drewN q) fun e w' => e = .returned (.tuple #[.int .i64 (k : Nat), .bool false]) ∧ Gw (w0.drewN q) w' := fun q => by
    have := find_c A R.length c0 R o.side o.price (w0.drewN q) hra hs hn
    rw [hk] at this
    have e : (decide (k < R.length) && (R[k]!).pr == o.price) = false := by
      by_cases h1 : k < R.length
      · have h2 : ¬ (R[k]!).pr = o.price := fun h => hno ⟨h1, h⟩
        have h3 : ((R[k]!).pr == o.price) = false := by
          cases h4 : ((R[k]!).pr == o.price) with
          | false => rfl
          | true => exact absurd (by simpa using h4) (by simpa using h2)
        rw [h3, Bool.and_false]
      · simp [h1]
    rw [e] at this
    exact this
  have HF' := Lib.hid HF
  have HH := Lib.hid H
  have HRo := Lib.hid hown
  have HRw : Hid (w.ownsRow 0 247 2 (.slice A R.length c0) R.length (rl R)) := by have := H.own o.side; rw [hR, hv] at this; exact this
  have H1 : Hid (∀ u ∈ rl R, u.oneCell' = true) := rows_one (fun r hr => H.q r (rsOf_mem (by rw [hR]; exact hr)))
  have hml : m < w.heap.size := H.lt (.inr (.inl rfl))
  obtain ⟨ob, hob⟩ : ∃ ob, w.heap.size = ob := ⟨_, rfl⟩
  rw [hob] at hO0 x0 x1 x2 x3 x4 x5 hpl hml
  have HPl := Lib.hid (And.intro hpl hml)
  have HV := Lib.hid hv
  clear H HF hra hno hown hv hpl hml
  go_enter Tryz.func178, Tryz.ntmps178
  go_wp2_with fail
  go_quiet (fail)
  go_wp2_with ((with_reducible refine (HF'.out _).mono ?_); rintro e w1 ⟨rfl, k1⟩; have G1 : Hid (Gw w w1) := (G0.trans ⟨below_drewN (Below.refl _ _) _, Nat.le_add_right _ _⟩).trans k1; have G01 : Gw w0 w1 := Gw.trans ⟨below_drewN (Below.refl _ _) _, Nat.le_add_right _ _⟩ k1; obtain ⟨y0, y1, y2, y3, y4, y5⟩ := six_of (hO0.gw G01); have hO1 : Cl 38 w1 ob (OC o) := hO0.gw G01; have hp1 : w1.cell? ⟨p, 0, none⟩ = some (.map (some m)) := cell_keep (S := fun _ => False) (Fr.of_below G01.b) (fun h => h) hpc; clear x0 x1 x2 x3 x4 x5 hpc hlk k1)
  have HIR : Hid (Calls Tryz.prog 185 #[.slice A R.length c0, .int .i64 (k : Nat), .slice (some ⟨w1.heap.size, 0, none⟩) 1 1] (w1.alloc (.cells #[.int .i64 o.price, .slice none 0 0] 247)) fun e w3 => ∃ v2, e = .returned v2 ∧ Hid (RowIns (w1.alloc (.cells #[.int .i64 o.price, .slice none 0 0] 247)) w3 (.slice A R.length c0) v2 (R.length + 1) (R.take k ++ ⟨o.price, v0, []⟩ :: R.drop k))) := by
    have hr : (w1.alloc (.cells #[.int .i64 o.price, .slice none 0 0] 247)).ownsRow 0 247 2 (.slice A R.length c0) R.length (rl R) := own_fr HRo.out (S := fun _ => False) (Fr.of_below (G01.alloc _).b) (fun _ _ h => h)
    have hlt := fun j hj => (own_lt HRo.out j hj).2
    refine (ins_R _ 0 R.length k (.slice A R.length c0) (rl R) [.int .i64 o.price, .slice none 0 0] w1.heap.size hr (Nat.zero_le _) hn hkl (fun e => by have := hlt _ e; have := G01.b.size; omega) (hd_last rfl) rfl H1.out (fun u hu => by rcases List.mem_cons.1 hu with rfl | hu; rfl; rw [List.mem_singleton.1 hu]; rfl)).mono fun e w3 ⟨v2, he, h⟩ => ⟨v2, he, Lib.hid ⟨?_, h.out.2.1, h.out.2.2⟩⟩
    rw [← rl_ins R k hkl]
    exact h.out.1
  obtain ⟨R2, hR2⟩ : ∃ R2, R.take k ++ (⟨o.price, v0, []⟩ : Rw) :: R.drop k = R2 := ⟨_, rfl⟩
  have hl2 : R2.length = R.length + 1 := by rw [← hR2, List.length_append, List.length_take, List.length_cons, List.length_drop]; omega
  have hk2 : k < R2.length := by omega
  have hat2 : R2[k]! = ⟨o.price, v0, []⟩ := by
    rw [← hR2, getElem!_pos _ k (by rw [hR2]; exact hk2), List.getElem_append_right (by rw [List.length_take]; omega)]
    simp only [List.length_take, Nat.min_eq_left hkl, Nat.sub_self, List.getElem_cons_zero]
  rw [hR2, ← hl2] at HIR
  have HR1 : Hid ((w1.alloc (.cells #[.int .i64 o.price, .slice none 0 0] 247)).ownsRow 0 247 2 (.slice A R.length c0) R.length (rl R)) := own_fr HRo.out (S := fun _ => False) (Fr.of_below (G01.alloc _).b) (fun _ _ h => h)
  have HOa : Hid (Cl 38 (w1.alloc (.cells #[.int .i64 o.price, .slice none 0 0] 247)) ob (OC o)) := hd_prev (blk_lt hO1) hO1
  have HBa : Hid (Bk (w1.alloc (.cells #[.int .i64 o.price, .slice none 0 0] 247)) (some ⟨p, 0, none⟩) (some m) s1 s2) := HH.out.gw (G1.out.alloc (.cells #[.int .i64 o.price, .slice none 0 0] 247))
  have HGa : Hid (Gw w (w1.alloc (.cells #[.int .i64 o.price, .slice none 0 0] 247))) := G1.out.alloc _
  have HK : Hid (k < R2.length ∧ (R2[k]!).pr = o.price) := ⟨hk2, by rw [hat2]⟩
  have HC : Hid ((rl R2)[k * 2 + 1]? = some v0) := by
    have := rl_get R2 k 1 hk2 (by omega)
    rw [this, hat2]
    rfl
  have HR2 := Lib.hid (And.intro hR2 hkl)
  have hk2I : (k : Int) < (R2.length : Int) := by omega
  clear hk hat2 hR2 hl2 y0 y1 y2 y3 y4 y5 hp1 hO1 hkl
  refine (HIR.out).mono ?_
  rintro e w3 ⟨v2, rfl, hI⟩
  obtain ⟨g, c, hv2, _, _⟩ := row_at hI.out.1 HK.out.1
  subst hv2
  have hO3 : Cl 38 w3 ob (OC o) := ins_keep HR1.out hI.out.2.1 HOa.out (fun cs e => by injection e with _ h; exact absurd h (by decide))
  have hp3 : w3.cell? ⟨p, 0, none⟩ = some (.map (some m)) := by
    rcases HBa.out.shape with ⟨h, _⟩ | ⟨pp, hb, hp⟩
    · cases h
    · injection hb with hb'
      injection hb' with hb''
      subst hb''
      have := ins_keep HR1.out hI.out.2.1 hp (fun cs e => by injection e with _ h; exact absurd h (by decide))
      rw [cell_of_row _ _ _ _ _ _ this]; rfl
  have hm3 : w3.drew.ownsMap Tryz.prog 3 RV m 2 (mapD s1 s2) := (map_keep HR1.out hI.out.2.1 (HBa.out.mp m rfl)).drew
  obtain ⟨w2, hrun, hown2, hturn⟩ := hm3.store keyI Tryz.underlying130 (by decide) (keyOf_int_mk Tryz.underlying3 hwf) (show RV (.slice (some ⟨g, 0, none⟩) R2.length c) = some (.held (.slice (some ⟨g, 0, none⟩) R2.length c), []) from rfl)
  have HT := Lib.hid (And.intro hown2 hturn)
  have HO3 := Lib.hid hO3
  clear hown2 hturn
  obtain ⟨z0, z1, z2, z3, z4, z5⟩ := six_of hO3
  go_wp2_with fail
  refine wp_region_held_drew (S := fun W => Cl 38 W ob (OC o) ∧ W.cell? ⟨p, 0, none⟩ = some (.map (some m))) (by kernel_rfl) ⟨hd_drew hO3, hp3⟩ (fun hHeld => ?_)
  refine wpAnyH_take (i := 0) (oi := ⟨some 33, _, _, _, _, _⟩) (v := ?_) rfl (by kernel_rfl) (by kernel_rfl) (by kernel_rfl) (fun _ _ _ h => h) (Or.inl ⟨by kernel_rfl, ?_⟩) (by assumption) ?_
  rotate_left
  · (intro w hSw; obtain ⟨hsw, hs7⟩ := hSw; obtain ⟨hs0, hs1, hs2, hs3, hs4, hs5⟩ := six_of hsw; clear hsw; go_simp; try with_reducible rfl)
  (repeat (first | simp only [Act.put] | simp only [List.setIfInBounds_toArray] | simp only [List.set_cons_succ] | simp only [List.set_cons_zero]))
  refine wpAnyH_take (i := 1) (oi := ⟨some 34, _, _, _, _, _⟩) (v := ?_) rfl (by kernel_rfl) (by kernel_rfl) (by kernel_rfl) (fun _ _ _ h => h) (Or.inl ⟨by kernel_rfl, ?_⟩) (by assumption) ?_
  rotate_left
  · (intro w hSw; obtain ⟨hsw, hs7⟩ := hSw; obtain ⟨hs0, hs1, hs2, hs3, hs4, hs5⟩ := six_of hsw; clear hsw; go_simp; try with_reducible rfl)
  (repeat (first | simp only [Act.put] | simp only [List.setIfInBounds_toArray] | simp only [List.set_cons_succ] | simp only [List.set_cons_zero]))
  refine wpAnyH_take (i := 2) (oi := ⟨some 35, _, _, _, _, _⟩) (v := ?_) rfl (by kernel_rfl) (by kernel_rfl) (by kernel_rfl) (fun _ _ _ h => h) (Or.inl ⟨by kernel_rfl, ?_⟩) (by assumption) ?_
  rotate_left
  · (intro w hSw; obtain ⟨hsw, hs7⟩ := hSw; obtain ⟨hs0, hs1, hs2, hs3, hs4, hs5⟩ := six_of hsw; clear hsw; go_simp; try with_reducible rfl)
  (repeat (first | simp only [Act.put] | simp only [List.setIfInBounds_toArray] | simp only [List.set_cons_succ] | simp only [List.set_cons_zero]))
  refine wpAnyH_take (i := 3) (oi := ⟨some 36, _, _, _, _, _⟩) (v := ?_) rfl (by kernel_rfl) (by kernel_rfl) (by kernel_rfl) (fun _ _ _ h => h) (Or.inl ⟨by kernel_rfl, ?_⟩) (by assumption) ?_
  rotate_left
  · (intro w hSw; obtain ⟨hsw, hs7⟩ := hSw; obtain ⟨hs0, hs1, hs2, hs3, hs4, hs5⟩ := six_of hsw; clear hsw; go_simp; try with_reducible rfl)
  (repeat (first | simp only [Act.put] | simp only [List.setIfInBounds_toArray] | simp only [List.set_cons_succ] | simp only [List.set_cons_zero]))
  refine wpAnyH_take (i := 4) (oi := ⟨some 37, _, _, _, _, _⟩) (v := ?_) rfl (by kernel_rfl) (by kernel_rfl) (by kernel_rfl) (fun _ _ _ h => h) (Or.inl ⟨by kernel_rfl, ?_⟩) (by assumption) ?_
  rotate_left
  · (intro w hSw; obtain ⟨hsw, hs7⟩ := hSw; obtain ⟨hs0, hs1, hs2, hs3, hs4, hs5⟩ := six_of hsw; clear hsw; go_simp; try with_reducible rfl)
  (repeat (first | simp only [Act.put] | simp only [List.setIfInBounds_toArray] | simp only [List.set_cons_succ] | simp only [List.set_cons_zero]))
  refine wpAnyH_take (i := 5) (oi := ⟨some 38, _, _, _, _, _⟩) (v := ?_) rfl (by kernel_rfl) (by kernel_rfl) (by kernel_rfl) (fun _ _ _ h => h) (Or.inl ⟨by kernel_rfl, ?_⟩) (by assumption) ?_
  rotate_left
  · (intro w hSw; obtain ⟨hsw, hs7⟩ := hSw; obtain ⟨hs0, hs1, hs2, hs3, hs4, hs5⟩ := six_of hsw; clear hsw; go_simp; try with_reducible rfl)
  (repeat (first | simp only [Act.put] | simp only [List.setIfInBounds_toArray] | simp only [List.set_cons_succ] | simp only [List.set_cons_zero]))
  refine wpAnyH_take (i := 6) (oi := ⟨some 39, _, _, _, _, _⟩) (v := ?_) rfl (by kernel_rfl) (by kernel_rfl) (by kernel_rfl) (fun _ _ _ h => h) (Or.inl ⟨by kernel_rfl, ?_⟩) (by assumption) ?_
  rotate_left
  · (intro w hSw; obtain ⟨hsw, hs7⟩ := hSw; obtain ⟨hs0, hs1, hs2, hs3, hs4, hs5⟩ := six_of hsw; clear hsw; go_simp; try with_reducible rfl)
  (repeat (first | simp only [Act.put] | simp only [List.setIfInBounds_toArray] | simp only [List.set_cons_succ] | simp only [List.set_cons_zero]))
  refine wpAnyH_ready (rs := [7]) (by kernel_rfl) (by simp) ?_
  refine AllReadyH.cons (o := ⟨none, _, _, _, _, _⟩) rfl (fun K hK => ?_) AllReadyH.nil
  go_simp
  skip
  refine hK.out _ _ (by exact ⟨turn_keep HT.out.2 (hd_drew HO3.out), turn_cell HT.out.2 hHeld.2⟩) (fun hHeld => ?_)
  clear hK K
  (repeat (first | simp only [Act.put] | simp only [List.setIfInBounds_toArray] | simp only [List.set_cons_succ] | simp only [List.set_cons_zero]))
  refine wpAnyH_done (by kernel_rfl) ?_ _
  clear z0 z1 z2 z3 z4 z5 hp3 hO3 hrun hHeld
  have hO : Cl 38 w2 ob (OC o) := turn_keep HT.out.2 (hd_drew HO3.out)
  have HR : Hid (w2.ownsRow 0 247 2 (.slice (some ⟨g, 0, none⟩) R2.length c) R2.length (rl R2)) := own_turn HT.out.2 (show w3.drew.ownsRow _ _ _ _ _ _ from hI.out.1)
  have hcq : w2.cell? ⟨g, k * 2 + 1, none⟩ = some (.slice none 0 0) := (own_cell HR.out rfl HC.out).1
  go_wp2_with fail
  have HQ : Hid (w2.ownsRow 0 38 6 (.slice none 0 0) 0 (ol [])) := ⟨rfl, .inl ⟨rfl, rfl⟩⟩
  have HP : Hid (∀ W, Gw w2 W → Calls Tryz.prog 182 #[.slice none 0 0, .agg #[.int .u64 o.id, .int .i64 o.acc, .int .i64 o.side, .int .i64 o.price, .int .i64 o.qty, .int .u64 o.seq]] W fun e w' => e = .returned (.int .i64 0) ∧ Gw W w') := fun W hW => place_c none 0 0 [] o W ⟨rfl, .inl rfl⟩ List.Pairwise.nil (Nat.zero_le _)
  have HI : Hid (∀ W4 vb, Gw w2 W4 → w2.heap.size ≤ vb → Cl 38 W4 vb (OC o) → Calls Tryz.prog 186 #[.slice none 0 0, .int .i64 0, .slice (some ⟨vb, 0, none⟩) 1 1] W4 fun e w5 => ∃ v', e = .returned v' ∧ Hid (InsOf W4 w5 (.slice none 0 0) v' 0 [o])) := fun W4 vb hG hle hvb => by
    refine (ins_O W4 0 0 0 (.slice none 0 0) [] (encO o) vb ⟨rfl, .inl ⟨rfl, rfl⟩⟩ (Nat.zero_le _) (Nat.zero_le _) (Nat.zero_le _) (fun e => by cases e) hvb rfl (fun u hu => by cases hu) (enc_one o)).mono fun e w5 ⟨v', he, h⟩ => ⟨v', he, Lib.hid ⟨?_, h.out.2.1, h.out.2.2⟩⟩
    have := h.out.1
    simpa [ol] using this
  have HB : Hid (∀ j, (Value.slice none 0 0).ownBlock = some j → j < ob) := fun j hj => by cases hj
  have HG : Hid (ob ≠ g) := by
    rcases hI.out.2.2 with e | e
    · have h1 := (own_lt HRo.out g (by rw [← e]; rfl)).2
      have h2 := (own_lt HRw.out g (by rw [← e]; rfl)).2
      show ob ≠ g
      omega
    · have e' : g = _ := Option.some.inj (show some g = _ from e)
      have h3 := blk_lt HOa.out
      show ob ≠ g
      rw [e']
      exact Nat.ne_of_lt h3
  have HEnd : Hid (∀ v' W6, _ → NewIs w W6 m (mapD s1 s2) (rowsOf s1 s2 o.side) (.slice (some ⟨g, 0, none⟩) R2.length c) v' R k o) := fun v' W6 hF => by
    rw [HV.out]
    exact new_end HGa.out hI.out HT.out.2 HT.out.1 HR2.out.1 HR2.out.2 hF
  refine wp_region_held_drew (S := fun W => Cl 38 W ob (OC o)) (by kernel_rfl) (hd_drew hO) (fun hHeld => ?_)
  refine wpAnyH_take (i := 0) (oi := ⟨some 45, _, _, _, _, _⟩) (v := ?_) rfl (by kernel_rfl) (by kernel_rfl) (by kernel_rfl) (fun _ _ _ h => h) (Or.inl ⟨by kernel_rfl, ?_⟩) (by assumption) ?_
  rotate_left
  · (intro w hSw; obtain ⟨hs0, hs1, hs2, hs3, hs4, hs5⟩ := six_of hSw; clear hSw; go_simp; try with_reducible rfl)
  (repeat (first | simp only [Act.put] | simp only [List.setIfInBounds_toArray] | simp only [List.set_cons_succ] | simp only [List.set_cons_zero]))
  refine wpAnyH_take (i := 1) (oi := ⟨some 46, _, _, _, _, _⟩) (v := ?_) rfl (by kernel_rfl) (by kernel_rfl) (by kernel_rfl) (fun _ _ _ h => h) (Or.inl ⟨by kernel_rfl, ?_⟩) (by assumption) ?_
  rotate_left
  · (intro w hSw; obtain ⟨hs0, hs1, hs2, hs3, hs4, hs5⟩ := six_of hSw; clear hSw; go_simp; try with_reducible rfl)
  (repeat (first | simp only [Act.put] | simp only [List.setIfInBounds_toArray] | simp only [List.set_cons_succ] | simp only [List.set_cons_zero]))
  refine wpAnyH_take (i := 2) (oi := ⟨some 47, _, _, _, _, _⟩) (v := ?_) rfl (by kernel_rfl) (by kernel_rfl) (by kernel_rfl) (fun _ _ _ h => h) (Or.inl ⟨by kernel_rfl, ?_⟩) (by assumption) ?_
  rotate_left
  · (intro w hSw; obtain ⟨hs0, hs1, hs2, hs3, hs4, hs5⟩ := six_of hSw; clear hSw; go_simp; try with_reducible rfl)
  (repeat (first | simp only [Act.put] | simp only [List.setIfInBounds_toArray] | simp only [List.set_cons_succ] | simp only [List.set_cons_zero]))
  refine wpAnyH_take (i := 3) (oi := ⟨some 48, _, _, _, _, _⟩) (v := ?_) rfl (by kernel_rfl) (by kernel_rfl) (by kernel_rfl) (fun _ _ _ h => h) (Or.inl ⟨by kernel_rfl, ?_⟩) (by assumption) ?_
  rotate_left
  · (intro w hSw; obtain ⟨hs0, hs1, hs2, hs3, hs4, hs5⟩ := six_of hSw; clear hSw; go_simp; try with_reducible rfl)
  (repeat (first | simp only [Act.put] | simp only [List.setIfInBounds_toArray] | simp only [List.set_cons_succ] | simp only [List.set_cons_zero]))
  refine wpAnyH_take (i := 4) (oi := ⟨some 49, _, _, _, _, _⟩) (v := ?_) rfl (by kernel_rfl) (by kernel_rfl) (by kernel_rfl) (fun _ _ _ h => h) (Or.inl ⟨by kernel_rfl, ?_⟩) (by assumption) ?_
  rotate_left
  · (intro w hSw; obtain ⟨hs0, hs1, hs2, hs3, hs4, hs5⟩ := six_of hSw; clear hSw; go_simp; try with_reducible rfl)
  (repeat (first | simp only [Act.put] | simp only [List.setIfInBounds_toArray] | simp only [List.set_cons_succ] | simp only [List.set_cons_zero]))
  refine wpAnyH_take (i := 6) (oi := ⟨some 51, _, _, _, _, _⟩) (v := ?_) rfl (by kernel_rfl) (by kernel_rfl) (by kernel_rfl) (fun _ _ _ h => h) (Or.inl ⟨by kernel_rfl, ?_⟩) (by assumption) ?_
  rotate_left
  · (intro w hSw; obtain ⟨hs0, hs1, hs2, hs3, hs4, hs5⟩ := six_of hSw; clear hSw; go_simp; try with_reducible rfl)
  (repeat (first | simp only [Act.put] | simp only [List.setIfInBounds_toArray] | simp only [List.set_cons_succ] | simp only [List.set_cons_zero]))
  refine wpAnyH_ready (rs := [5, 7]) (by kernel_rfl) (by simp) ?_
  refine AllReadyH.cons (o := ⟨some 50, _, _, _, _, _⟩) rfl (fun K hK => ?_) (AllReadyH.cons (o := ⟨some 52, _, _, _, _, _⟩) rfl (fun K hK => ?_) AllReadyH.nil)
  · go_simp
    have hg0 : Gw w2 w2.drew := ⟨(Below.refl _ _).drew, Nat.le_succ _⟩
    refine (HP.out _ hg0).mono ?_
    rintro e w3 ⟨rfl, k3⟩
    have hO3 := Cl.gw hHeld k3
    have hg3 := hg0.trans k3
    refine hK.out _ _ (by exact hO3) (fun hHeld => ?_)
    clear hK K
    (repeat (first | simp only [Act.put] | simp only [List.setIfInBounds_toArray] | simp only [List.set_cons_succ] | simp only [List.set_cons_zero]))
    refine wpAnyH_ready (rs := [7]) (by kernel_rfl) (by simp) ?_
    refine AllReadyH.cons (o := ⟨some 52, _, _, _, _, _⟩) rfl (fun K hK => ?_) AllReadyH.nil
    go_simp
    (try go_wp2_with fail)
    refine hK.out _ _ (by exact hd_prev (blk_lt hO3) hO3) (fun hHeld => ?_)
    clear hK K
    (repeat (first | simp only [Act.put] | simp only [List.setIfInBounds_toArray] | simp only [List.set_cons_succ] | simp only [List.set_cons_zero]))
    refine wpAnyH_ready (rs := [8]) (by kernel_rfl) (by simp) ?_
    refine AllReadyH.cons (o := ⟨some 53, _, _, _, _, _⟩) rfl (fun K hK => ?_) AllReadyH.nil
    go_simp
    have hG4 : Gw w2 (w3.alloc (.cells (OC o) 38)) := hg3.alloc _
    refine (HI.out (w3.alloc (.cells (OC o) 38)) w3.heap.size hG4 (hg3.b.size) (hd_last rfl)).mono ?_
    rintro e w5 ⟨v', rfl, hI⟩
    have hO5 := put_cl hHeld HB.out hI.out
    obtain ⟨va, vc, rfl, _⟩ := own_que2 hI.out.1
    have hR5 := put_mid HR.out HQ.out hG4 hI.out
    obtain ⟨z0, f0⟩ := own_cell hR5 rfl HC.out
    refine hK.out _ _ (by exact hO5) (fun hHeld => ?_)
    clear hK K
    (repeat (first | simp only [Act.put] | simp only [List.setIfInBounds_toArray] | simp only [List.set_cons_succ] | simp only [List.set_cons_zero]))
    refine wpAnyH_take (i := 9) (oi := ⟨some 54, _, _, _, _, _⟩) (v := ?_) rfl (by kernel_rfl) (by kernel_rfl) (by kernel_rfl) (fun _ _ _ h => h) (Or.inl ⟨by kernel_rfl, ?_⟩) (by assumption) ?_
    rotate_left
    · (intro w hSw; obtain ⟨hs0, hs1, hs2, hs3, hs4, hs5⟩ := six_of hSw; clear hSw; go_simp; try with_reducible rfl)
    (repeat (first | simp only [Act.put] | simp only [List.setIfInBounds_toArray] | simp only [List.set_cons_succ] | simp only [List.set_cons_zero]))
    refine wpAnyH_take (i := 10) (oi := ⟨some 55, _, _, _, _, _⟩) (v := ?_) rfl (by kernel_rfl) (by kernel_rfl) (by kernel_rfl) (fun _ _ _ h => h) (Or.inl ⟨by kernel_rfl, ?_⟩) (by assumption) ?_
    rotate_left
    · (intro w hSw; obtain ⟨hs0, hs1, hs2, hs3, hs4, hs5⟩ := six_of hSw; clear hSw; go_simp; try with_reducible rfl)
    (repeat (first | simp only [Act.put] | simp only [List.setIfInBounds_toArray] | simp only [List.set_cons_succ] | simp only [List.set_cons_zero]))
    refine wpAnyH_ready (rs := [11]) (by kernel_rfl) (by simp) ?_
    refine AllReadyH.cons (o := ⟨none, _, _, _, _, _⟩) rfl (fun K hK => ?_) AllReadyH.nil
    go_simp
    (try go_wp2_with fail)
    refine hK.out _ _ (by exact (heap_far (a := ⟨g, k * 2 + 1, none⟩) HG.out).trans hO5) (fun hHeld => ?_)
    clear hK K
    (repeat (first | simp only [Act.put] | simp only [List.setIfInBounds_toArray] | simp only [List.set_cons_succ] | simp only [List.set_cons_zero]))
    refine wpAnyH_done (by kernel_rfl) ?_ _
    have HF := Lib.hid (put_fin HK.out.1 HK.out.2 HR.out HQ.out (Gw.refl w2) hG4 hI.out)
    clear hO5 hR5 z0 f0 hI hHeld
    go_wp2_with fail
    go_end0
    exact ⟨rfl, .slice (some ⟨g, 0, none⟩) R2.length c, .slice va (0 + 1) vc, Lib.hid (HEnd.out _ _ HF.out)⟩
  · go_simp
    have hg0 : Gw w2 w2.drew := ⟨(Below.refl _ _).drew, Nat.le_succ _⟩
    have hO3 : Cl 38 (w2.drew.alloc (.cells (OC o) 38)) ob (OC o) := hd_prev (blk_lt hHeld) hHeld
    (try go_wp2_with fail)
    refine hK.out _ _ (by exact hO3) (fun hHeld => ?_)
    clear hK K
    (repeat (first | simp only [Act.put] | simp only [List.setIfInBounds_toArray] | simp only [List.set_cons_succ] | simp only [List.set_cons_zero]))
    refine wpAnyH_ready (rs := [5]) (by kernel_rfl) (by simp) ?_
    refine AllReadyH.cons (o := ⟨some 50, _, _, _, _, _⟩) rfl (fun K hK => ?_) AllReadyH.nil
    go_simp
    refine (HP.out _ (hg0.alloc _)).mono ?_
    rintro e w3 ⟨rfl, k3⟩
    have hO4 := Cl.gw hHeld k3
    have hv3 : Cl 38 w3 w2.heap.size (OC o) := Cl.gw (X := w2.drew.alloc (.cells (OC o) 38)) (hd_last rfl) k3
    refine hK.out _ _ (by exact hO4) (fun hHeld => ?_)
    clear hK K
    (repeat (first | simp only [Act.put] | simp only [List.setIfInBounds_toArray] | simp only [List.set_cons_succ] | simp only [List.set_cons_zero]))
    refine wpAnyH_ready (rs := [8]) (by kernel_rfl) (by simp) ?_
    refine AllReadyH.cons (o := ⟨some 53, _, _, _, _, _⟩) rfl (fun K hK => ?_) AllReadyH.nil
    go_simp
    have hG4 : Gw w2 w3 := (hg0.alloc _).trans k3
    refine (HI.out w3 w2.heap.size hG4 (Nat.le_refl _) (hv3)).mono ?_
    rintro e w5 ⟨v', rfl, hI⟩
    have hO5 := put_cl hHeld HB.out hI.out
    obtain ⟨va, vc, rfl, _⟩ := own_que2 hI.out.1
    have hR5 := put_mid HR.out HQ.out hG4 hI.out
    obtain ⟨z0, f0⟩ := own_cell hR5 rfl HC.out
    refine hK.out _ _ (by exact hO5) (fun hHeld => ?_)
    clear hK K
    (repeat (first | simp only [Act.put] | simp only [List.setIfInBounds_toArray] | simp only [List.set_cons_succ] | simp only [List.set_cons_zero]))
    refine wpAnyH_take (i := 9) (oi := ⟨some 54, _, _, _, _, _⟩) (v := ?_) rfl (by kernel_rfl) (by kernel_rfl) (by kernel_rfl) (fun _ _ _ h => h) (Or.inl ⟨by kernel_rfl, ?_⟩) (by assumption) ?_
    rotate_left
    · (intro w hSw; obtain ⟨hs0, hs1, hs2, hs3, hs4, hs5⟩ := six_of hSw; clear hSw; go_simp; try with_reducible rfl)
    (repeat (first | simp only [Act.put] | simp only [List.setIfInBounds_toArray] | simp only [List.set_cons_succ] | simp only [List.set_cons_zero]))
    refine wpAnyH_take (i := 10) (oi := ⟨some 55, _, _, _, _, _⟩) (v := ?_) rfl (by kernel_rfl) (by kernel_rfl) (by kernel_rfl) (fun _ _ _ h => h) (Or.inl ⟨by kernel_rfl, ?_⟩) (by assumption) ?_
    rotate_left
    · (intro w hSw; obtain ⟨hs0, hs1, hs2, hs3, hs4, hs5⟩ := six_of hSw; clear hSw; go_simp; try with_reducible rfl)
    (repeat (first | simp only [Act.put] | simp only [List.setIfInBounds_toArray] | simp only [List.set_cons_succ] | simp only [List.set_cons_zero]))
    refine wpAnyH_ready (rs := [11]) (by kernel_rfl) (by simp) ?_
    refine AllReadyH.cons (o := ⟨none, _, _, _, _, _⟩) rfl (fun K hK => ?_) AllReadyH.nil
    go_simp
    (try go_wp2_with fail)
    refine hK.out _ _ (by exact (heap_far (a := ⟨g, k * 2 + 1, none⟩) HG.out).trans hO5) (fun hHeld => ?_)
    clear hK K
    (repeat (first | simp only [Act.put] | simp only [List.setIfInBounds_toArray] | simp only [List.set_cons_succ] | simp only [List.set_cons_zero]))
    refine wpAnyH_done (by kernel_rfl) ?_ _
    have HF := Lib.hid (put_fin HK.out.1 HK.out.2 HR.out HQ.out (Gw.refl w2) hG4 hI.out)
    clear hO5 hR5 z0 f0 hI hHeld
    go_wp2_with fail
    go_end0
    exact ⟨rfl, .slice (some ⟨g, 0, none⟩) R2.length c, .slice va (0 + 1) vc, Lib.hid (HEnd.out _ _ HF.out)⟩

end Go.Proofs.YtgbmgdffgmablaaGreat

namespace Go.Proofs.YtgbmgdffgmablaaGreat
open Go.RowKit Go.Shelf Go.Sort Go.Maps

/-- No two queues lie in one block. -/
def DisQ (l : List Rw) : Prop := l.Pairwise (fun a b => ∀ j, a.v.ownBlock = some j → b.v.ownBlock ≠ some j)
/-- What is changed in the rows: at most one is put in the place of at most one. -/
def Swap (n : Nat) (M X : List Rw) : Prop := (M = [] ∨ ∃ r, M = [r]) ∧ (X = [] ∨ ∃ x, X = [x] ∧ ((∃ r, M = [r] ∧ x.v.ownBlock = r.v.ownBlock) ∨ ∃ j, x.v.ownBlock = some j ∧ n ≤ j))
theorem disq_swap {P M X T : List Rw} {n : Nat} (h : DisQ (P ++ M ++ T)) (hl : ∀ r ∈ P ++ M ++ T, ∀ j, r.v.ownBlock = some j → j < n) (hX : Swap n M X) : DisQ (P ++ X ++ T) := by
  unfold DisQ at *
  rw [List.append_assoc, List.pairwise_append, List.pairwise_append] at h ⊢
  obtain ⟨h1, ⟨h2, h3, h4⟩, h5⟩ := h
  have hp : ∀ r ∈ P, ∀ j, r.v.ownBlock = some j → j < n := fun r hr => hl r (by simp [hr])
  have ht : ∀ r ∈ T, ∀ j, r.v.ownBlock = some j → j < n := fun r hr => hl r (by simp [hr])
  have h5t : ∀ a ∈ P, ∀ b ∈ T, ∀ j, a.v.ownBlock = some j → b.v.ownBlock ≠ some j := fun a ha b hb => h5 a ha b (List.mem_append_right _ hb)
  rcases hX.2 with rfl | ⟨x, rfl, hx⟩
  · refine ⟨h1, ⟨List.Pairwise.nil, h3, fun a ha => by cases ha⟩, fun a ha b hb => ?_⟩
    rw [List.nil_append] at hb
    exact h5t a ha b hb
  · have hxp : ∀ a ∈ P, ∀ j, a.v.ownBlock = some j → x.v.ownBlock ≠ some j := by
      rcases hx with ⟨r, rfl, e⟩ | ⟨i, e, hi⟩
      · intro a ha j hj
        rw [e]
        exact h5 a ha r (by simp) j hj
      · intro a ha j hj
        have := hp a ha j hj
        rw [e]
        intro e'
        injection e' with e'
        omega
    have hxt : ∀ b ∈ T, ∀ j, x.v.ownBlock = some j → b.v.ownBlock ≠ some j := by
      rcases hx with ⟨r, rfl, e⟩ | ⟨i, e, hi⟩
      · intro b hb j hj
        rw [e] at hj
        exact h4 r (by simp) b hb j hj
      · intro b hb j hj e'
        have := ht b hb j e'
        rw [e] at hj
        injection hj with hj
        omega
    refine ⟨h1, ⟨List.pairwise_singleton _ _, h3, fun a ha b hb => ?_⟩, fun a ha b hb => ?_⟩
    · rw [List.mem_singleton.1 ha]; exact hxt b hb
    · rcases List.mem_append.1 hb with hb | hb
      · rw [List.mem_singleton.1 hb]; exact hxp a ha
      · exact h5t a ha b hb
/-- The blocks that may turn: a map's, a row of rows, and the queue that is changed. -/
def TurnS (m : Nat) (v : Value) (M : List Rw) (j : Nat) : Prop := j = m ∨ v.ownBlock = some j ∨ ∃ r ∈ M, r.v.ownBlock = some j
theorem q_swap {w w' : World} {m : Nat} {v : Value} {P M X T : List Rw} {n' : Nat} {xs : List Value} {D : DataW Value} {nn : Nat} (h : DisQ (P ++ M ++ T)) (hq : ∀ r ∈ P ++ M ++ T, w.ownsRow 0 38 6 r.v r.q.length (ol r.q)) (hv : w.ownsRow 0 247 2 v n' xs) (hm : w.ownsMap Tryz.prog 3 RV m nn D)
    (hx : ∀ r ∈ X, w'.ownsRow 0 38 6 r.v r.q.length (ol r.q)) (hF : Fr (TurnS m v M) w w') : ∀ r ∈ P ++ X ++ T, w'.ownsRow 0 38 6 r.v r.q.length (ol r.q) := by
  have key : ∀ r ∈ P ++ M ++ T, (∀ y ∈ M, ∀ j, r.v.ownBlock = some j → y.v.ownBlock ≠ some j) → w'.ownsRow 0 38 6 r.v r.q.length (ol r.q) := by
    intro r hr hd
    refine own_fr (hq r hr) hF (fun j hj hS => ?_)
    obtain ⟨cs, hcs⟩ := own_blk (hq r hr) hj
    rcases hS with rfl | e | ⟨y, hy, e⟩
    · obtain ⟨es, clock, hb, _⟩ := hm
      rw [hb] at hcs; cases hcs
    · exact own_ne hv hcs (by decide) e
    · exact hd y hy j hj e
  unfold DisQ at h
  rw [List.append_assoc, List.pairwise_append, List.pairwise_append] at h
  obtain ⟨h1, ⟨h2, h3, h4⟩, h5⟩ := h
  intro r hr
  rw [List.append_assoc] at hr
  rcases List.mem_append.1 hr with hr | hr
  · exact key r (by simp [hr]) (fun y hy j hj e => h5 r hr y (List.mem_append_left _ hy) j hj e)
  · rcases List.mem_append.1 hr with hr | hr
    · exact hx r hr
    · exact key r (by simp [hr]) (fun y hy j hj e => h4 y hy r hr j e hj)

/-- A book that is whole. -/
structure Whole (w : World) (p m : Nat) (s1 s2 : Sd) : Prop where
  bk : Bk w (some ⟨p, 0, none⟩) (some m) s1 s2
  ok1 : SideOk 1 s1.rs
  ok2 : SideOk 2 s2.rs
  dq : DisQ (s1.rs ++ s2.rs)
  dv : ∀ j, s1.v.ownBlock = some j → s2.v.ownBlock ≠ some j
  ids : (bookL s1.rs s2.rs).Pairwise (fun x y => ¬ x.id = y.id)
  len : (bookL s1.rs s2.rs).length ≤ 64
  ok : ∀ x ∈ bookL s1.rs s2.rs, Od.ok w x ∧ goodO x = true
theorem map_ne {w : World} {m nn : Nat} {D : DataW Value} {cs : Array Value} {T : TypeId} {j : Nat} (hm : w.ownsMap Tryz.prog 3 RV m nn D) (h : w.heap[j]? = some (.cells cs T (0, 0))) : j ≠ m := by
  rintro rfl
  obtain ⟨es, clock, hb, _⟩ := hm
  rw [hb] at h; cases h
/-- The first side's rows are changed. -/
theorem swap1 {w w' : World} {p m : Nat} {s1 s2 : Sd} {A B M X : List Rw} {v2 : Value} (H : Whole w p m s1 s2) (hR : s1.rs = A ++ M ++ B) (hX : Swap w.heap.size M X) (hv2 : v2.ownBlock = s1.v.ownBlock ∨ ∃ j, v2.ownBlock = some j ∧ w.heap.size ≤ j)
    (hx : ∀ r ∈ X, w'.ownsRow 0 38 6 r.v r.q.length (ol r.q)) (hr : w'.ownsRow 0 247 2 v2 (A ++ X ++ B).length (rl (A ++ X ++ B))) (hm : w'.ownsMap Tryz.prog 3 RV m 2 (mapD ⟨true, v2, A ++ X ++ B⟩ s2)) (hF : Fr (TurnS m s1.v M) w w') :
    Bk w' (some ⟨p, 0, none⟩) (some m) ⟨true, v2, A ++ X ++ B⟩ s2 ∧ DisQ (A ++ X ++ B ++ s2.rs) ∧ (∀ j, v2.ownBlock = some j → s2.v.ownBlock ≠ some j) := by
  have hl : A ++ M ++ (B ++ s2.rs) = s1.rs ++ s2.rs := by rw [hR]; simp only [List.append_assoc]
  have hl' : A ++ X ++ (B ++ s2.rs) = A ++ X ++ B ++ s2.rs := by simp only [List.append_assoc]
  have hmw := H.bk.mp m rfl
  refine ⟨⟨?_, (fun h => by cases h), (fun k hk => by injection hk with hk; subst hk; exact hm), (fun h => by cases h), H.bk.t2, hr, ?_, ?_⟩, ?_, ?_⟩
  · rcases H.bk.shape with ⟨h, _⟩ | ⟨q, hb, hq⟩
    · cases h
    · refine .inr ⟨q, hb, hF.blk hq (fun hS => ?_)⟩
      rcases hS with e | e | ⟨y, hy, e⟩
      · exact map_ne hmw hq e
      · exact own_ne H.bk.r1 hq (by decide) e
      · exact own_ne (H.bk.q y (by rw [← hl]; simp [hy])) hq (by decide) e
  · refine own_fr H.bk.r2 hF (fun j hj hS => ?_)
    obtain ⟨cs, hcs⟩ := own_blk H.bk.r2 hj
    rcases hS with e | e | ⟨y, hy, e⟩
    · exact map_ne hmw hcs e
    · exact H.dv j e hj
    · exact own_ne (H.bk.q y (by rw [← hl]; simp [hy])) hcs (by decide) e
  · show ∀ r ∈ A ++ X ++ B ++ s2.rs, _
    rw [← hl']
    exact q_swap (by rw [hl]; exact H.dq) (by rw [hl]; exact H.bk.q) H.bk.r1 hmw hx hF
  · rw [← hl']
    exact disq_swap (by rw [hl]; exact H.dq) (by rw [hl]; exact fun r hr j hj => (own_lt (H.bk.q r hr) j hj).2) hX
  · intro j hj e
    rcases hv2 with e' | ⟨i, e', hi⟩
    · exact H.dv j (by rw [← e']; exact hj) e
    · have := (own_lt H.bk.r2 j e).2
      rw [e'] at hj
      injection hj with hj
      omega
/-- The second side's rows are changed. -/
theorem swap2 {w w' : World} {p m : Nat} {s1 s2 : Sd} {A B M X : List Rw} {v2 : Value} (H : Whole w p m s1 s2) (hR : s2.rs = A ++ M ++ B) (hX : Swap w.heap.size M X) (hv2 : v2.ownBlock = s2.v.ownBlock ∨ ∃ j, v2.ownBlock = some j ∧ w.heap.size ≤ j)
    (hx : ∀ r ∈ X, w'.ownsRow 0 38 6 r.v r.q.length (ol r.q)) (hr : w'.ownsRow 0 247 2 v2 (A ++ X ++ B).length (rl (A ++ X ++ B))) (hm : w'.ownsMap Tryz.prog 3 RV m 2 (mapD s1 ⟨true, v2, A ++ X ++ B⟩)) (hF : Fr (TurnS m s2.v M) w w') :
    Bk w' (some ⟨p, 0, none⟩) (some m) s1 ⟨true, v2, A ++ X ++ B⟩ ∧ DisQ (s1.rs ++ (A ++ X ++ B)) ∧ (∀ j, s1.v.ownBlock = some j → v2.ownBlock ≠ some j) := by
  have hl : (s1.rs ++ A) ++ M ++ B = s1.rs ++ s2.rs := by rw [hR]; simp only [List.append_assoc]
  have hl' : (s1.rs ++ A) ++ X ++ B = s1.rs ++ (A ++ X ++ B) := by simp only [List.append_assoc]
  have hmw := H.bk.mp m rfl
  refine ⟨⟨?_, (fun h => by cases h), (fun k hk => by injection hk with hk; subst hk; exact hm), H.bk.t1, (fun h => by cases h), ?_, hr, ?_⟩, ?_, ?_⟩
  · rcases H.bk.shape with ⟨h, _⟩ | ⟨q, hb, hq⟩
    · cases h
    · refine .inr ⟨q, hb, hF.blk hq (fun hS => ?_)⟩
      rcases hS with e | e | ⟨y, hy, e⟩
      · exact map_ne hmw hq e
      · exact own_ne H.bk.r2 hq (by decide) e
      · exact own_ne (H.bk.q y (by rw [← hl]; simp [hy])) hq (by decide) e
  · refine own_fr H.bk.r1 hF (fun j hj hS => ?_)
    obtain ⟨cs, hcs⟩ := own_blk H.bk.r1 hj
    rcases hS with e | e | ⟨y, hy, e⟩
    · exact map_ne hmw hcs e
    · exact H.dv j hj e
    · exact own_ne (H.bk.q y (by rw [← hl]; simp [hy])) hcs (by decide) e
  · show ∀ r ∈ s1.rs ++ (A ++ X ++ B), _
    rw [← hl']
    exact q_swap (by rw [hl]; exact H.dq) (by rw [hl]; exact H.bk.q) H.bk.r2 hmw hx hF
  · rw [← hl']
    exact disq_swap (by rw [hl]; exact H.dq) (by rw [hl]; exact fun r hr j hj => (own_lt (H.bk.q r hr) j hj).2) hX
  · intro j e hj
    rcases hv2 with e' | ⟨i, e', hi⟩
    · exact H.dv j e (by rw [← e']; exact hj)
    · have := (own_lt H.bk.r1 j e).2
      rw [e'] at hj
      injection hj with hj
      omega
theorem flat_ge : ∀ (R : List Rw), (∀ r ∈ R, r.q ≠ []) → R.length ≤ (flatR R).length
  | [], _ => Nat.zero_le _
  | r :: R, h => by
    have h1 := List.length_pos_iff.2 (h r (by simp))
    have h2 := flat_ge R (fun r hr => h r (by simp [hr]))
    unfold flatR at *
    rw [List.flatMap_cons, List.length_append, List.length_cons]
    omega
theorem Whole.ne {w : World} {p m : Nat} {s1 s2 : Sd} (H : Whole w p m s1 s2) : ∀ r ∈ s1.rs ++ s2.rs, r.q ≠ [] := by
  intro r hr
  rcases List.mem_append.1 hr with hr | hr
  · exact H.ok1.some r hr
  · exact H.ok2.some r hr
theorem Whole.n1 {w : World} {p m : Nat} {s1 s2 : Sd} (H : Whole w p m s1 s2) : s1.rs.length ≤ 64 ∧ s2.rs.length ≤ 64 ∧ lenQ (s1.rs ++ s2.rs) ≤ 64 := by
  have h := H.len
  have h1 := flat_ge _ H.ok1.some
  have h2 := flat_ge _ H.ok2.some
  unfold bookL at h
  rw [List.length_append] at h
  refine ⟨by omega, by omega, ?_⟩
  rw [lenQ_flat, flatR_app]
  unfold bookL
  rw [List.length_append]; omega
theorem Whole.fr {S : Nat → Prop} {w w' : World} {p m : Nat} {s1 s2 : Sd} (H : Whole w p m s1 s2) (hf : Fr S w w') (hn : ∀ k, foot (some ⟨p, 0, none⟩) (some m) s1 s2 k → ¬ S k) : Whole w' p m s1 s2 :=
  ⟨H.bk.fr hf hn, H.ok1, H.ok2, H.dq, H.dv, H.ids, H.len, H.ok⟩
theorem Whole.below {w w' : World} {p m : Nat} {s1 s2 : Sd} (H : Whole w p m s1 s2) (hf : Below w.heap.size w w') : Whole w' p m s1 s2 :=
  H.fr (S := fun _ => False) (Fr.of_below hf) (fun _ _ h => h)
theorem Whole.pw {w : World} {p m : Nat} {s1 s2 : Sd} (H : Whole w p m s1 s2) : (bookL s1.rs s2.rs).Pairwise (fun x y => ltO x y = true) := book_pw H.ok1 H.ok2
end Go.Proofs.YtgbmgdffgmablaaGreat
