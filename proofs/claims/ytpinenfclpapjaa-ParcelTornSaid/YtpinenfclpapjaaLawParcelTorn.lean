/-
  ParcelTorn: for every input the law returns true, and each argument reads behind the call as it read before. No condition.
-/
import Derived.Test.YtpinenfclpapjaaRows
import Derived.WalkKit
import Derived.ProofKit
import Derived.OpenShut
import Derived.ShutString
import Derived.ChangeOld
import Derived.Below
import Derived.Carry
import Derived.Test.YtpinenfclpapjaaPcU
namespace Go.Proofs.Ytpinenfclpapjaa.parcelTorn
open Go.ChangeShapes Go.WideShapes Go.ChangeAt Go.RowKit
open Go.ChangeMaps (open_string shut_string)
set_option linter.unusedVariables false

theorem own : ownKnob Try.prog.godebug = none := by kernel_rfl
theorem laidOut : laidOutB Try.prog = true := by kernel_rfl

/-- A slice of bytes that came in, as the form reads it. -/
def IsRow (w : World) (a : Option Addr) (len cap : Nat) (zs : List Int) : Prop :=
  (a = none ∧ len = 0 ∧ cap = 0 ∧ zs = []) ∨ ∃ x, a = some x ∧ len ≤ cap ∧ cap ≤ maxLen ∧ zs.length = cap ∧ (∀ i, i < zs.length → w.cell? (x.add i) = some (.int .u8 (zs.getD i 0))) ∧ ∀ n ∈ zs, (Lit.int .u8 n).wf = true

set_option maxHeartbeats 8000000 in
set_option maxRecDepth 100000 in
theorem walk (a0 : Option Addr) (len0 cap0 : Nat) (its0 : List Pie) (a1 : Int) (w : World) (w0 : Pies w a0 len0 its0 ∧ len0 ≤ cap0 ∧ cap0 ≤ maxLen) (w1 : (Lit.int .u16 a1).wf = true) :
    Calls Try.prog 4 #[.slice a0 len0 cap0, .int .u16 a1] w fun e w' => e = .returned (.bool true) ∧ Below w.heap.size w w' := by
  obtain ⟨wP, wC, wM⟩ := w0
  have ha := bounds_u16 w1
  obtain ⟨ct, rfl⟩ : ∃ n : Nat, (n : Int) = a1 := ⟨a1.toNat, by omega⟩
  have HP := Lib.hid wP
  have HLi := Lib.hid wP.1
  have hm := wP.2.1
  have hmI : (len0 : Int) ≤ 9223372036854775807 := by omega
  have HCt : Hid (ct ≤ 65535) := by show _ ≤ _; omega
  obtain ⟨i0, hi0, hz0, hz1, hz2⟩ := info_parts info_u8
  obtain ⟨j0, hj0, jz0, jz1, jz2⟩ := info_parts info_int
  clear wP wC wM w1 ha hm
  go_enter Try.func4, Try.ntmps4
  by_cases h12 : 12 < len0
  · have hI : (12 : Int) < (len0 : Int) := by omega
    clear h12
    go_wp2_with fail
    ((with_reducible refine (lives3_c _).mono ?_); rintro e z1 ⟨rfl, bz⟩)
    go_wp2_with fail
    go_ret
    exact ⟨rfl, bz⟩
  have hI : (len0 : Int) ≤ 12 := by omega
  have H12 : Hid (len0 ≤ 12) := by show _ ≤ _; omega
  clear h12
  go_wp2_with fail
  go_loopw [5, 6, 23] (fun b es i wr => ∃ k : Nat, k ≤ len0 ∧ i = .int .i64 (k : Int) ∧ Hid (∀ x ∈ its0.take k, OkP x) ∧ wr.ownsRow w.heap.size 5 1 b (goodP (its0.take k)).flatten.length ((goodP (its0.take k)).flatten.map byt) ∧ wr.ownsRow w.heap.size 3 1 es (goodP (its0.take k)).length (endsV (its0.take k)) ∧ Hid (∀ q, b.ownBlock = some q → es.ownBlock ≠ some q) ∧ Hid (Below w.heap.size w wr)) (fun _ _ i _ => len0 - (intOf i).toNat)
  case atStart => exact ⟨0, by omega, rfl, by intro x hx; simp at hx, World.ownsRow_nil _ _ _ _, World.ownsRow_nil _ _ _ _, by intro q hq; simp [Value.ownBlock] at hq, Below.refl _ _⟩
  case round =>
    obtain ⟨k, hk, rfl, hok, ho1, ho2, hne, hd⟩ := hrel
    have hk0 : (0 : Int) ≤ (k : Int) := by omega
    by_cases hlt : k < len0
    · have hltI : (k : Int) < (len0 : Int) := by omega
      obtain ⟨b, off, kd, A, n, c, Z, rfl, hb, hx, p0, p1, hkd, hS, hnc, hcm, hnil⟩ := (HP.out.below hd.out).row hlt
      have HN := Lib.hid (goodP_snoc (its := its0) (k := k) (by rw [HLi.out]; exact hlt))
      rw [hx] at HN
      have hbx : Below wr.heap.size wr (wr.alloc (.cells #[.int .u8 (kd : Int), .slice A n c] 39)) := (Below.refl _ wr).alloc (Nat.le_refl _) _
      have HB1 : Hid (Below w.heap.size w (wr.alloc (.cells #[.int .u8 (kd : Int), .slice A n c] 39))) := hd.out.trans (hbx.mono hd.out.size)
      have hbox : (wr.alloc (.cells #[.int .u8 (kd : Int), .slice A n c] 39)).heap[wr.heap.size]? = some (.cells #[.int .u8 (kd : Int), .slice A n c] 39 (0, 0)) := heap_alloc_new wr _
      by_cases h500 : 500 < n
      · have h500I : (500 : Int) < (n : Int) := by omega
        clear h500 ho1 ho2 hx hkd hS
        go_wp2_with fail
        ((with_reducible refine (lives3_c _).mono ?_); rintro e z1 ⟨rfl, bz⟩)
        go_wp2_with fail
        go_ret
        exact ⟨rfl, HB1.out.trans (bz.mono HB1.out.size)⟩
      have h500I : (n : Int) ≤ 500 := by omega
      have hZ : Z.length ≤ 500 := by rw [hS.1]; omega
      have HOk : Hid (∀ x ∈ its0.take (k + 1), OkP x) := by
        intro x hx'
        rw [List.take_succ_eq_append_getElem (by rw [HLi.out]; exact hlt), List.mem_append, List.mem_singleton] at hx'
        rcases hx' with h | h
        · exact hok.out x h
        · rw [List.getElem!_eq_getElem?_getD, List.getElem?_eq_getElem (by rw [HLi.out]; exact hlt)] at hx
          rw [h, show its0[k]'(by rw [HLi.out]; exact hlt) = _ from hx]
          exact ⟨by show ((kd : Nat) : Int).toNat < 256; omega, hZ⟩
      have H1 := wrapAny_c kd hkd A n c Z _ (hS.below hbx) (by omega) hnil
      unfold Wrapped at H1
      have HO1 := Lib.hid (own_keep ho1 hbx)
      have HO2 := Lib.hid (own_keep ho2 hbx)
      by_cases hz : kd = 0
      · subst hz
        rw [(wrapZ Z).1, (wrapZ Z).2, show ((2 : Nat) : Int) = 2 from rfl, show ((0 : Nat) : Int) = 0 from rfl] at H1
        have H1 := Lib.hid H1
        have HE : Hid (goodP (its0.take (k + 1)) = goodP (its0.take k)) := by
          show _ = _
          rw [HN.out]
          exact List.append_nil _
        clear HN hx hS hbx ho1 ho2 hd h500
        go_wp2_with fail
        ((with_reducible refine H1.out.mono ?_); rintro e w1 ⟨A1, c1, rfl, hd1⟩)
        have hb1 := hd1.out.2.1
        have HB2 : Hid (Below w.heap.size w w1) := HB1.out.trans (hb1.mono HB1.out.size)
        have HO3 := Lib.hid (own_keep HO1.out hb1)
        have HO4 := Lib.hid (own_keep HO2.out hb1)
        clear hd1 hb1 HB1 HO1 HO2 H1
        go_wp2_with fail
        refine ⟨⟨k + 1, by omega, by go_num, HOk.out, ?_, ?_, hne.out, HB2.out⟩, by simp [intOf]; omega⟩
        · rw [HE.out]; exact HO3.out
        · unfold endsV; rw [HE.out]; exact HO4.out
      rw [(wrapNZ hz hZ).1, (wrapNZ hz hZ).2, show ((0 : Nat) : Int) = 0 from rfl] at H1
      obtain ⟨B, hB⟩ : ∃ B, B = wrapB kd Z := ⟨_, rfl⟩
      obtain ⟨hBu, hBl⟩ := wrapB_len kd Z hZ
      have HE : Hid (goodP (its0.take (k + 1)) = goodP (its0.take k) ++ [B]) := by
        show _ = _
        rw [HN.out]
        unfold piP
        rw [if_neg (by show ¬ ((kd : Nat) : Int).toNat = 0; omega), hB]
        rfl
      rw [← hB] at H1 hBu hBl
      have H1 := Lib.hid H1
      obtain ⟨hgl, hgn⟩ := goodP_len hok.out
      have htk : (its0.take k).length ≤ 12 := by rw [List.length_take]; have := HLi.out; have := H12.out; omega
      obtain ⟨g, hg⟩ : ∃ g, g = goodP (its0.take k) := ⟨_, rfl⟩
      have HEv : Hid (endsV (its0.take (k + 1)) = endsV (its0.take k) ++ [nInt (g.flatten.length + B.length)]) := by
        show _ = _
        unfold endsV
        rw [HE.out, endsF_snoc, List.map_append, Nat.zero_add, hg]
        rfl
      obtain ⟨ev, hev⟩ : ∃ ev, ev = endsV (its0.take k) := ⟨_, rfl⟩
      rw [← hg] at HE HO1 HO2 hgl hgn
      rw [← hev] at HEv HO2
      have HEf : Hid ((goodP (its0.take (k + 1))).flatten = g.flatten ++ B ∧ (goodP (its0.take (k + 1))).length = g.length + 1) := by
        show _ ∧ _
        rw [HE.out, List.flatten_append]
        simp
      obtain ⟨G, hG⟩ : ∃ G, G = g.flatten := ⟨_, rfl⟩
      obtain ⟨gl, hgL⟩ : ∃ gl, gl = g.length := ⟨_, rfl⟩
      rw [← hG] at HEv HO1 hgl HEf
      rw [← hgL] at HO2 hgn HEf
      clear HN hx hS hbx ho1 ho2 hd h500 hB hg hev hZ hG hgL HE
      go_wp2_with fail
      ((with_reducible refine H1.out.mono ?_); rintro e w1 ⟨A1, c1, rfl, hd1⟩)
      have hb1 := hd1.out.2.1
      have HB2 : Hid (Below w.heap.size w w1) := HB1.out.trans (hb1.mono HB1.out.size)
      have HO3 := own_keep HO1.out hb1
      have HO4 := Lib.hid (own_keep HO2.out hb1)
      obtain ⟨q, o1, hA1, hq, hcell⟩ : ∃ q o1, A1 = some ⟨q, o1, none⟩ ∧ q < w1.heap.size ∧ ∀ i, i < B.length → w1.cell? ⟨q, o1 + i, none⟩ = some (byt (B.getD i 0)) := by
        rcases hd1.out.1.2 with h0 | h0
        · omega
        · exact h0
      subst hA1
      have HNw := Lib.hid (SlB.news rfl hcell)
      clear hd1 hb1 HB1 HO1 HO2 H1 hcell
      go_wp2_with (at_builtin; refine wpList_append_own_at _ rfl _ _ 22 rfl w.heap.size 5 i0 (.int .u8 0) 1 1 Try.underlying22 hi0 hz0 hz1 hz2 rfl (by decide) _ _ _ rfl HO3 ⟨q, o1, none⟩ B.length c1 (B.map byt) rfl ?c0 ?c1 ?c2 ?c3 ?c4 ?c5 ?_)
      case c0 => rw [List.length_map, Nat.mul_one]
      case c1 => exact HNw.out
      case c2 => exact byt_one _
      case c3 => unfold maxLen; omega
      case c4 => omega
      case c5 => exact HB2.out.size
      intro v5 w2 hown1 hg1 _ hat1
      have HB3 : Hid (Below w.heap.size w w2) := Below.grown HB2.out hg1 HB2.out.size (fun i hi => (HO3.lt i hi).1)
      have HO5 := own_grown HO4.out hg1 (fun i hi e => hne.out i e hi)
      have HNE : Hid (∀ j, u6.ownBlock = some j → v5.ownBlock ≠ some j) := by
        intro j hj h5
        rcases hat1 with h | h
        · exact hne.out j (h ▸ h5) hj
        · rw [h] at h5
          injection h5 with h5
          have := (HO4.out.lt j hj).2
          omega
      rw [← List.map_append] at hown1
      obtain ⟨A5, c5, rfl⟩ := own_slice hown1
      have HO6 := Lib.hid hown1
      clear hown1 hg1 hat1 HO3 HO4 HNw HB2 hne
      go_wp2_with (at_builtin; refine wpList_append_own_at _ rfl _ _ 37 rfl w.heap.size 3 j0 (.int .i64 0) 1 8 Try.underlying37 hj0 jz0 jz1 jz2 rfl (by decide) _ _ _ rfl (own_keep HO5 ((Below.refl _ w2).alloc (Nat.le_refl _) _)) ⟨w2.heap.size, 0, none⟩ 1 1 [nInt (G.length + B.length)] rfl ?d0 ?d1 ?d2 ?d3 ?d4 ?d5 ?_)
      case d0 => rfl
      case d1 => exact cell_one_new _ _ _
      case d2 => intro u hu; rw [List.mem_singleton] at hu; subst hu; rfl
      case d3 => unfold maxLen; omega
      case d4 => omega
      case d5 => rw [World.size_alloc]; have := HB3.out.size; omega
      intro v6 w3 hown2 hg2 _ hat2
      have hb2 : Below w2.heap.size w2 (w2.alloc (.cells #[nInt (G.length + B.length)] 3)) := (Below.refl _ w2).alloc (Nat.le_refl _) _
      have HB4 : Hid (Below w.heap.size w w3) := Below.grown (HB3.out.alloc HB3.out.size _) hg2 (by rw [World.size_alloc]; have := HB3.out.size; omega) (fun i hi => (HO5.lt i hi).1)
      have HO7 := Lib.hid (own_grown (own_keep HO6.out hb2) hg2 (fun i hi e => HNE.out i e hi))
      have HNF : Hid (∀ j, (Value.slice A5 (G.length + B.length) c5).ownBlock = some j → v6.ownBlock ≠ some j) := by
        intro j hj h6
        rcases hat2 with h | h
        · exact HNE.out j (h ▸ h6) hj
        · rw [h] at h6
          injection h6 with h6
          have := (HO6.out.lt j hj).2
          omega
      have HO8 := Lib.hid hown2
      clear hown2 hg2 hat2 HO5 HO6 HNE HB3
      go_wp2_with fail
      refine ⟨⟨k + 1, by omega, by go_num, HOk.out, ?_, ?_, HNF.out, HB4.out⟩, by simp [intOf]; omega⟩
      · rw [HEf.out.1, List.length_append]; exact HO7.out
      · rw [HEf.out.2, HEv.out]; exact HO8.out
    · obtain rfl : k = len0 := by omega
      have htk : its0.take k = its0 := List.take_of_length_le (by have := HLi.out; omega)
      rw [htk] at ho1 ho2 hok
      obtain ⟨hgl, hgn⟩ := goodP_len hok.out
      have h12 := H12.out
      have hil := HLi.out
      have HEv : Hid (endsV its0 = (endsF 0 (goodP its0)).map nInt) := rfl
      have hWh := goodP_whole hok.out
      have hel := endsF_len (goodP its0) 0
      obtain ⟨ps, hps⟩ : ∃ ps, ps = goodP its0 := ⟨_, rfl⟩
      rw [HEv.out] at ho2
      rw [← hps] at ho1 ho2 hgl hgn hWh hel
      have hN : ps.flatten.length ≤ 6240 := by omega
      obtain ⟨tt, htt⟩ : ∃ tt, tt = ct % (ps.flatten.length + 1) := ⟨_, rfl⟩
      have htl : tt ≤ ps.flatten.length := by have := Nat.mod_lt ct (show 0 < ps.flatten.length + 1 by omega); omega
      have hEI := endIs_of ps tt hWh htl
      obtain ⟨m, hm⟩ : ∃ m, m = ps.length := ⟨_, rfl⟩
      have hFo := fold_of ps tt m hm
      obtain ⟨G, hG⟩ : ∃ G, G = ps.flatten := ⟨_, rfl⟩
      obtain ⟨wn, hwn⟩ : ∃ wn, wn = wantN ps tt := ⟨_, rfl⟩
      obtain ⟨es, hes⟩ : ∃ es, es = endsF 0 ps := ⟨_, rfl⟩
      rw [← hG] at ho1 hEI htl htt hN
      rw [← hes] at ho2 hFo
      rw [← hwn] at hEI hFo
      rw [← hm] at ho2
      obtain ⟨F, hF⟩ : ∃ F, F = fwN es tt := ⟨_, rfl⟩
      rw [← hF] at hFo
      obtain ⟨NG, hNG⟩ : ∃ NG, NG = G.length := ⟨_, rfl⟩
      rw [← hNG] at ho1 htl htt hN
      obtain ⟨A5, c5, rfl⟩ := own_slice ho1
      obtain ⟨A6, c6, rfl⟩ := own_slice ho2
      have HE := Lib.hid hEI
      have HFo := Lib.hid hFo
      have HO1 := Lib.hid ho1
      have HO2 := Lib.hid ho2
      have HD := Lib.hid hd.out
      have HT := Lib.hid htl
      have HN := Lib.hid hN
      have hmod := tmod_sm ct NG tt htt
      have hw1 := wrap_sm ct (Nat.le_trans HCt.out (by decide))
      have hw2 := wrap_sm1 NG (Nat.le_trans hN (by decide))
      have hw3 := wrap64_sm1 NG (Nat.le_trans hN (by decide))
      have hne1 := ne_sm NG
      have hm12 : (m : Int) ≤ 12 := int_le_of (Nat.le_trans (hm ▸ hgn) (Nat.le_trans (Nat.le_of_eq hil) h12))
      obtain ⟨hc5, hcm5, hbl5⟩ := own_more HO1.out
      have ht5 : (tt : Int) ≤ (c5 : Int) := int_le_of (Nat.le_trans htl hc5)
      have HC := Lib.hid (And.intro hc5 (And.intro hcm5 hbl5))
      have htt0 : (0 : Int) ≤ (tt : Int) := int_le_of (Nat.zero_le tt)
      clear hc5 hcm5 hbl5
      clear hEI hFo ho1 ho2 hNG htl htt hps hG hes hwn hm hF hWh htk hok hgl hgn HEv hne hil hel hN hd h12
      go_wp2_with fail
      go_loop [12, 59] (fun v i => ∃ q : Nat, q ≤ m ∧ i = .int .i64 (q : Int) ∧ v = .int .i64 (F q : Int)) (fun _ i => m - (intOf i).toNat)
      case atStart => exact ⟨0, Nat.zero_le _, rfl, by rw [HFo.out.zero]; rfl⟩
      case round =>
        obtain ⟨q, hq, rfl, rfl⟩ := hrel
        have hq0 : (0 : Int) ≤ (q : Int) := int_le_of (Nat.zero_le q)
        by_cases hlt : q < m
        · have hltI : (q : Int) < (m : Int) := int_lt_of hlt
          obtain ⟨gb, x, rfl, hx, hcell⟩ := ends_cell HO2.out hlt
          have HX := Lib.hid hx
          have HQ := Lib.hid hlt
          clear hx
          by_cases hle : x ≤ tt
          · have hleI : (x : Int) ≤ (tt : Int) := int_le_of hle
            have HY := Lib.hid (HFo.out.yes q x HX.out hle)
            clear hle hlt hq
            go_wp2_with fail
            go_round
            case rel => exact ⟨q + 1, HQ.out, by go_num, by rw [HY.out]⟩
            case measure => exact meas_down HQ.out
          · have hleI : ¬ (x : Int) ≤ (tt : Int) := int_nle_of hle
            have HY := Lib.hid (HFo.out.no q x HX.out hle)
            clear hle hlt hq
            go_wp2_with fail
            go_round
            case rel => exact ⟨q + 1, HQ.out, by go_num, by rw [HY.out]⟩
            case measure => exact meas_down HQ.out
        · obtain rfl : q = m := Nat.le_antisymm hq (Nat.le_of_not_lt hlt)
          rw [HFo.out.fin]
          go_wp2_with fail
          have hS := SlB.upTo (own_slb0 HO1.out) tt HT.out
          have hEn := end_c A5 tt c5 (G.take tt) wr hS (tt_big HT.out HN.out) (Nat.le_trans HT.out HC.out.1) HC.out.2.1 HC.out.2.2
          rw [HE.out.n] at hEn
          by_cases hw : wn = tt
          · rw [HE.out.same hw, show ((0 : Nat) : Int) = 0 from rfl] at hEn
            have HEn := Lib.hid hEn
            obtain rfl := hw
            clear hEn hS
            (with_reducible refine HEn.out.mono ?_); rintro e w5 ⟨rfl, hb5⟩
            have HD5 := Lib.hid (HD.out.trans (hb5.out.mono HD.out.size))
            clear hb5
            go_wp2_with fail
            ((with_reducible refine (lives3_c _).mono ?_); rintro e z1 ⟨rfl, bz⟩)
            go_wp2_with fail
            go_ret
            exact ⟨rfl, HD5.out.trans (bz.mono HD5.out.size)⟩
          · rw [HE.out.torn hw, show ((31 : Nat) : Int) = 31 from rfl] at hEn
            have HEn := Lib.hid hEn
            have hne2 := int_beq_ne hw
            clear hEn hS hw
            (with_reducible refine HEn.out.mono ?_); rintro e w5 ⟨rfl, hb5⟩
            have HD5 := Lib.hid (HD.out.trans (hb5.out.mono HD.out.size))
            clear hb5
            go_wp2_with fail
            ((with_reducible refine (lives3_c _).mono ?_); rintro e z1 ⟨rfl, bz⟩)
            go_wp2_with fail
            go_ret
            exact ⟨rfl, HD5.out.trans (bz.mono HD5.out.size)⟩

set_option maxRecDepth 100000 in
theorem lifted (os : Os) (started : os.Started) (H : Type) (enc : TypeId × Value → H) :
    ReturnsInHanded {} Try.checked os 4 .any (Rows.parcelTornSpec.pre6 enc Try.prog Try.f4 Rows.parcelTornRow.domain false) (Rows.parcelTornSpec.post enc Try.prog Try.f4 false true false false) := by
  refine returnsInHanded_of_change (C := Try.checked) own started (by kernel_rfl) Try.func4
    (ChangeSpec.witness6 (enc := enc) (C := Try.checked) false ⟨#[], #[.slice none 0 0, .int .u16 0], []⟩ 8 (by kernel_rfl) (by kernel_rfl) (by kernel_rfl) (by kernel_rfl)) ?_
  intro W base args ds gs before hval0 hW hcnd _
  have hval : ∀ (j : Nat) t v, Try.f4.params[j]? = some t → args[j]? = some v → Value.okWide Try.prog W .any base t v := hval0
  have hW' := hW
  obtain ⟨p, q, hA0, hV, rfl, hfz, hnd⟩ := hW
  have hA : DataW.TrodAll enc Try.prog W 0 (fun _ => true) true Try.f4.params.toList args.toList ds p := hA0
  rw [Try.params4] at hA hval
  obtain ⟨v0, vs0, d0, ds0, p0, q0, hargs, rfl, rfl, h0, r0⟩ := trodAll_cons hA
  obtain ⟨v1, vs1, d1, ds1, p1, q1, rfl, rfl, rfl, h1, r1⟩ := trodAll_cons r0
  obtain ⟨rfl, rfl, rfl⟩ := trodAll_nil r1
  obtain rfl : args = #[v0, v1] := by cases args; simp_all
  obtain ⟨rfl, rfl⟩ := trodVars_none hV
  have k0 := h0
  have lt0 : ∀ x ∈ p0, x.block < W.heap.size := by obtain ⟨m, hm⟩ := k0; exact DataW.trod_lt m _ _ _ hm
  obtain ⟨a0, len0, cap0, rfl⟩ := okWide_slice Try.underlying35 (hval 0 35 v0 rfl rfl)
  obtain ⟨its0, w0⟩ := open_pies h0
  obtain ⟨a1, rfl, rfl, rfl, w1⟩ := open_int Try.underlying36 (hval 1 36 v1 rfl rfl) h1
  clear hA0 hval0
  refine (walk a0 len0 cap0 its0 a1 W w0 w1).mono fun e W' ⟨he, bel⟩ => ?_
  subst he
  exact ⟨_, rfl, _, _, _, [], _, [], hW', trodAll_mk1 (shut_bool Try.underlying4 _), (trodAll_cons_mk (Below.trod laidOut (by kernel_rfl) (of_decide_eq_true (by kernel_rfl)) k0 bel lt0) (trodAll_cons_mk (shut_int Try.underlying36 w1) trodAll_mk0)), rfl, bel.frame _, fun h => by cases h⟩

theorem over : Rows.parcelTornRow.holds Try.pinned (OpenSpec.ofChange Rows.parcelTornSpec) :=
  OpenClaim.holds_of_wide 4 Try.f4 rfl rfl rfl rfl rfl rfl rfl ⟨rfl, rfl, rfl, rfl, rfl⟩ rfl rfl rfl rfl rfl (by kernel_rfl) Try.func4 (by kernel_rfl)
    (of_decide_eq_true (by kernel_rfl)) (by unfold Func.isWrapper; first | (rw [if_pos (by decide +kernel)]; kernel_rfl) | (rw [if_neg (by decide +kernel)]; exact ⟨rfl, rfl⟩))
    (fun os started H enc _ => lifted os started H enc)

theorem proved : Rows.ParcelTornSaid := over
end Go.Proofs.Ytpinenfclpapjaa.parcelTorn
