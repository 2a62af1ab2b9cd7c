/-
  fault.Text of a chain: its layers' digits, a sign between, a blank, the number's digits.
-/
import Derived.Test.YtpinenfclpapjaaDoorFtE
import Derived.Test.YtpinenfclpapjaaDoorFtP
import Derived.Test.YtpinenfclpapjaaDoorShelf
import Derived.Lib.LaidTab
namespace Go.Proofs.YtpinenfclpapjaaDoor
open Go.RowKit Go.Extern.Stop Go.Stop Go.Extern
open Go.Sort (grow)
set_option linter.unusedVariables false

/-- The table of the powers of ten lies. -/
def Pow (w : World) : Prop := Lib.TabIs Tryd.prog w "internal/strconv.uint64pow10" .u64 Lib.pow10Tab
theorem powAt : Tryd.prog.globalNamed "internal/strconv.uint64pow10" = some 1 := by kernel_rfl
theorem Pow.below {B : Nat} {w w' : World} (h : Pow w) (hb : Below B w w') (hB : 1 < B) : Pow w' := by
  unfold Pow Lib.TabIs World.var? at h ⊢
  rw [powAt] at h ⊢
  simp only [Option.bind_some] at h ⊢
  rw [hb.block _ hB]; exact h
theorem below_grow (w : World) (os : Array Obj) : Below w.heap.size w (grow w os) := ⟨rfl, rfl, rfl, by simp [grow], fun k hk => by
  show (w.heap ++ os)[k]? = w.heap[k]?
  rw [Array.getElem?_append_left hk]⟩
theorem below_dn {B : Nat} {a w : World} (h : Below B a w) (n : Nat) : Below B a (w.drewN n) := ⟨h.os, h.tape, h.output, h.size, h.block⟩
theorem itoa_c (n : Int) (h0 : -9223372036854775808 ≤ n) (h1 : n ≤ 9223372036854775807) (w : World) (hp : Pow w) :
    Calls Tryd.prog 19 #[.int .i64 n] w fun e w' => e = .returned (Str (Lib.itoa n)) ∧ Below w.heap.size w w' :=
  (Tryd.strconv_Itoa n h0 h1 w hp).mono fun e w' ⟨he, k, os, hw⟩ => ⟨he, by rw [hw]; exact (below_dn (Below.refl _ w) k).trans ((below_grow (w.drewN k) os).mono (Nat.le_refl _))⟩

theorem ft_info_str : (Tryd.prog.info? 9).map (fun i => (i.zero, i.size, i.bytes)) = some (some (.string ⟨#[]⟩), 1, 16) := by kernel_rfl
/-- Texts as cells. -/
def strV (xs : List (List UInt8)) : List Value := xs.map fun x => Str x
theorem strV_snoc (ls : List Int) (k : Nat) (n : Int) (h : ls[k]? = some n) : strV (txs (ls.take (k + 1))) = strV (txs (ls.take k)) ++ [Str (Lib.itoa n)] := by
  have hk := (List.getElem?_eq_some_iff.1 h)
  obtain ⟨hk, he⟩ := hk
  rw [List.take_succ_eq_append_getElem hk, he]
  simp [strV, txs]
theorem own_ints {w : World} {base n : Nat} {v : Value} {ls : List Int} (h : w.ownsRow base 3 1 v n (lyV ls)) (hn : 0 < n) (hln : ls.length = n) :
    ∃ g c, v = .slice (some ⟨g, 0, none⟩) n c ∧ g < w.heap.size ∧ n ≤ c ∧ ∀ i, i < n → w.cell? ⟨g, i, none⟩ = some (.int .i64 (ls.getD i 0)) := by
  rcases h.2 with ⟨rfl, h0⟩ | ⟨g, cap, cur, rfl, _, hk, hc, _⟩
  · omega
  · refine ⟨g, cap, rfl, blk_lt hk, hc, fun i hi => ?_⟩
    have hu : (lyV ls)[i]? = some (.int .i64 (ls.getD i 0)) := by
      unfold lyV
      rw [List.getElem?_map, List.getD_eq_getElem?_getD, List.getElem?_eq_getElem (by omega)]; rfl
    have := h.cells (g := g) rfl i _ hu
    rw [addr_add, Nat.zero_add] at this
    exact this
theorem own_strs {w : World} {base n : Nat} {v : Value} {xs : List (List UInt8)} (h : w.ownsRow base 9 1 v n (strV xs)) (hn : 0 < n) :
    ∃ g c, v = .slice (some ⟨g, 0, none⟩) n c ∧ g < w.heap.size ∧ n ≤ c ∧ xs.length = n ∧ ∀ (j : Nat) (x : ByteArray), (xs.map fun l => (⟨l.toArray⟩ : ByteArray))[j]? = some x → w.cell? ⟨g, 0 + j, none⟩ = some (.string x) := by
  have hl := h.1
  rcases h.2 with ⟨rfl, h0⟩ | ⟨g, cap, cur, rfl, _, hk, hc, _⟩
  · omega
  · refine ⟨g, cap, rfl, blk_lt hk, hc, by simpa [strV] using hl, fun j x hx => ?_⟩
    have hu : (strV xs)[j]? = some (.string x) := by
      unfold strV
      rw [List.getElem?_map] at hx ⊢
      obtain ⟨l, hl, rfl⟩ := Option.map_eq_some_iff.1 hx
      rw [hl]; rfl
    have := h.cells (g := g) rfl j _ hu
    rw [addr_add] at this
    exact this
theorem txt_eq (J I : List UInt8) : (ByteArray.mk J.toArray ++ ByteArray.mk #[32] ++ ByteArray.mk I.toArray) = ByteArray.mk (J ++ ([32] ++ I)).toArray := by
  have h := ByteArray.mk_append_mk J [32]
  rw [show (#[32] : Array UInt8) = [32].toArray from rfl, h, ByteArray.mk_append_mk, List.append_assoc]
theorem text_nil (w : World) : Calls Tryd.prog 11 #[.nilIface] w fun e w' => e = .returned (Str []) ∧ Below w.heap.size w w' := by
  go_enter Tryd.func11, Tryd.ntmps11
  go_wp2_with (first | (go_at_call 9; refine (layers_nil _).mono ?_; rintro e w1 ⟨rfl, hb1⟩) | (go_at_call 10; refine (code_nil _).mono ?_; rintro e w2 ⟨rfl, hb2⟩))
  go_ret
  exact ⟨rfl, below_tr hb1 hb2 hb1.size⟩

set_option maxHeartbeats 4000000 in
set_option maxRecDepth 100000 in
theorem text_c (c : Int) (hc : (c == 0) = false) (hc' : (c != 0) = true) (c0 : -9223372036854775808 ≤ c) (c1 : c ≤ 9223372036854775807) (ls : List Int) (hls : ls.length ≤ 1000) (hin : In64 ls) (b : Nat) (w : World) (hp : Pow w) (hg : w.cell? ⟨0, 0, none⟩ = some (.iface 72 (.agg #[.pointer (some ⟨5, 24, none⟩)]))) (h : Chn w c ls b) (hz : 1 < w.heap.size) :
    Calls Tryd.prog 11 #[fvl b] w fun e w' => e = .returned (Str (txt ls c)) ∧ Below w.heap.size w w' := by
  obtain ⟨j0, hj0, jz0, jz1, jz2⟩ := ft_info_parts ft_info_str
  have hpos : 0 < ls.length := h.pos
  have HL := Lib.hid hls
  have HIn := Lib.hid hin
  have hlI : ((ls.length : Int) == 0) = false := by
    rw [beq_eq_false_iff_ne]; omega
  clear hls hin
  have HC := Lib.hid (And.intro c0 c1)
  clear c0 c1
  go_enter Tryd.func11, Tryd.ntmps11
  go_wp2_with fail
  (with_reducible refine (layers_c c hc' ls HL.out b _ hg h).mono ?_); rintro e w1 ⟨v, rfl, hown, hb1⟩
  have hg1 : w1.cell? ⟨0, 0, none⟩ = some (.iface 72 (.agg #[.pointer (some ⟨5, 24, none⟩)])) := (hb1.cell (p := ⟨0, 0, none⟩) (World.block_lt_of_cell? w _ hg)).trans hg
  obtain ⟨g, cp, rfl, hgl, hcp, hcells⟩ := own_ints hown hpos rfl
  have HCe := Lib.hid hcells
  clear hown hcells
  go_wp2_with fail
  (with_reducible refine (code_c c hc' ls b _ hg1 (h.below hb1)).mono ?_); rintro e w2 ⟨rfl, hb2⟩
  have HB2 : Hid (Below w.heap.size w w2) := below_tr hb1 hb2 hb1.size
  have HCe2 : Hid (∀ i, i < ls.length → w2.cell? ⟨g, i, none⟩ = some (.int .i64 (ls.getD i 0))) := by
    intro i hi
    exact (hb2.cell (p := ⟨g, i, none⟩) hgl).trans (HCe.out i hi)
  have hgl2 : g < w2.heap.size := Nat.lt_of_lt_of_le hgl hb2.size
  clear HCe hg1
  have hpI : (0 : Int) < (ls.length : Int) := by omega
  go_wp2_with fail
  go_loopw [5, 21] (fun ds i wr => ∃ k : Nat, k ≤ ls.length ∧ i = .int .i64 (k : Int) ∧ wr.ownsRow w2.heap.size 9 1 ds k (strV (txs (ls.take k))) ∧ Below w2.heap.size w2 wr) (fun _ i _ => ls.length - (intOf i).toNat)
  case atStart => exact ⟨0, Nat.zero_le _, rfl, World.ownsRow_nil _ _ _ _, Below.refl _ _⟩
  case round =>
    obtain ⟨k, hk, rfl, hown, bel⟩ := hrel
    have HO := Lib.hid hown
    clear hown
    have hsz := bel.size
    have hlm := HL.out
    by_cases hlt : k < ls.length
    · have hltI : (k : Int) < (ls.length : Int) := by omega
      have hce : wr.cell? ⟨g, k, none⟩ = some (.int .i64 (ls.getD k 0)) := (bel.cell (p := ⟨g, k, none⟩) hgl2).trans (HCe2.out k hlt)
      have hmem : ls[k]? = some (ls.getD k 0) := by rw [List.getD_eq_getElem?_getD, List.getElem?_eq_getElem hlt]; rfl
      obtain ⟨nv, hnv⟩ : ∃ nv, nv = ls.getD k 0 := ⟨_, rfl⟩
      rw [← hnv] at hce hmem
      have HNv := Lib.hid hmem
      have hr : -9223372036854775808 ≤ nv ∧ nv ≤ 9223372036854775807 := HIn.out nv (List.mem_of_getElem? hmem)
      have HR := Lib.hid hr
      have hpw : Pow wr := (hp.below HB2.out hz).below bel (Nat.lt_of_lt_of_le hz HB2.out.size)
      clear hmem hnv hr hlm
      go_wp2_with fail
      (with_reducible refine (itoa_c nv HR.out.1 HR.out.2 _ hpw).mono ?_); rintro e w3 ⟨rfl, hb3⟩
      have HB3 := Lib.hid (bel.trans (hb3.mono hsz))
      have hsz3 := HB3.out.size
      have HO3 := Lib.hid (ft_own_keep HO.out hb3)
      have HLm := HL.out
      go_wp2_with (at_builtin; refine wpList_append_own_at _ rfl _ _ 44 rfl w2.heap.size 9 j0 (.string ⟨#[]⟩) 1 16 Tryd.underlying44 hj0 jz0 jz1 jz2 rfl (by decide) _ _ _ rfl (ft_own_keep HO3.out ((Below.refl _ w3).alloc (Nat.le_refl _) _)) ⟨w3.heap.size, 0, none⟩ 1 1 [Str (Lib.itoa nv)] rfl ?c0 ?c1 ?c2 ?c3 ?c4 ?c5 ?_)
      case c0 => rfl
      case c1 => exact ft_cell_new _ _ _
      case c2 => intro u hu; rw [List.mem_singleton] at hu; subst hu; rfl
      case c3 => unfold maxLen; omega
      case c4 => omega
      case c5 => simp; omega
      intro v5 w4 hown1 hg1 _ hat1
      have HB4 : Hid (Below w2.heap.size w2 w4) := Below.grown (HB3.out.trans (((Below.refl _ w3).alloc (Nat.le_refl _) _).mono hsz3)) hg1 (by simp; omega) (fun i hi => (HO3.out.lt i hi).1)
      rw [← strV_snoc _ _ _ HNv.out] at hown1
      have HO4 := Lib.hid hown1
      clear hown1 hg1 hat1
      go_wp2_with fail
      refine ⟨⟨k + 1, by omega, by go_num, HO4.out, HB4.out⟩, by simp [intOf]; omega⟩
    · obtain rfl : ls.length = k := by omega
      have hlI2 : decide ((ls.length : Int) < (ls.length : Int)) = false := by simp
      rw [List.take_length] at HO
      obtain ⟨g2, c2, rfl, hg2, hc2, hl2, hcell2⟩ := own_strs HO.out hpos
      have hpw : Pow wr := (hp.below HB2.out hz).below bel (Nat.lt_of_lt_of_le hz HB2.out.size)
      have hlen : (txs ls).length = ls.length := by simp [txs]
      have hjl := txs_join_len ls HIn.out
      have hJ := Tryd.strings_Join g2 0 c2 ((txs ls).map fun l => (⟨l.toArray⟩ : ByteArray)) ⟨#[62]⟩ wr hcell2 hg2 (by rw [List.length_map]; omega) (by rw [List.length_map]; omega) (by
        rw [List.map_map, show ((fun x : ByteArray => x.data.toList) ∘ fun l : List UInt8 => (⟨l.toArray⟩ : ByteArray)) = id from by funext x; simp, List.map_id]
        show (Lib.join (txs ls) [62]).length ≤ _
        omega)
      rw [List.map_map, show ((fun x : ByteArray => x.data.toList) ∘ fun l : List UInt8 => (⟨l.toArray⟩ : ByteArray)) = id from by funext x; simp, List.map_id, List.length_map, hlen, show (⟨#[62]⟩ : ByteArray).data.toList = [62] from rfl] at hJ
      have HJ := Lib.hid hJ
      have hit := itoa_len HC.out.1 HC.out.2
      have hn1 : ¬ 9223372036854775807 < (Lib.join (txs ls) [62]).length + 1 := by omega
      have hn2 : ¬ 9223372036854775807 < (Lib.join (txs ls) [62]).length + 1 + (Lib.itoa c).length := by omega
      clear hJ hjl hit hcell2 hl2 hlen hlm hk
      go_wp2_with fail
      (with_reducible refine HJ.out.mono ?_); rintro e w5 ⟨rfl, hb5⟩
      have hpw5 : Pow w5 := hpw.below hb5 (by have := HB2.out.size; omega)
      have HB5 := Lib.hid (HB2.out.trans (((bel.trans (hb5.mono hsz))).mono HB2.out.size))
      clear HJ hb5 hpw HO
      go_wp2_with fail
      (with_reducible refine (itoa_c c HC.out.1 HC.out.2 _ hpw5).mono ?_); rintro e w6 ⟨rfl, hb6⟩
      have HB6 := Lib.hid (HB5.out.trans (hb6.mono HB5.out.size))
      clear hb6 HB5
      go_wp2_with fail
      go_ret
      exact ⟨by rw [txt_eq]; rfl, HB6.out⟩
end Go.Proofs.YtpinenfclpapjaaDoor
