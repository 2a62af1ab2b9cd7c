/-
  CodecBack: for every input the law returns true, and each argument reads behind the call as it read before. No condition.
-/
import Derived.Test.YtoechhbdpkjppaaRows
import Derived.WalkKit
import Derived.ProofKit
import Derived.OpenShut
import Derived.ChangeOld
import Derived.Below
import Derived.Carry
import Derived.Test.YtoechhbdpkjppaaBack2
namespace Go.Proofs.Ytoechhbdpkjppaa.codecBack
open Go.ChangeShapes Go.WideShapes Go.ChangeAt Go.RowKit
set_option linter.unusedVariables false

theorem own : ownKnob Try.prog.godebug = none := by kernel_rfl
theorem laidOut : laidOutB Try.prog = true := by kernel_rfl

/-- A slice of bytes that came in, as the form reads it. -/
def IsRow (w : World) (a : Option Addr) (len cap : Nat) (zs : List Int) : Prop :=
  (a = none ∧ len = 0 ∧ cap = 0 ∧ zs = []) ∨ ∃ x, a = some x ∧ len ≤ cap ∧ cap ≤ maxLen ∧ zs.length = cap ∧ (∀ i, i < zs.length → w.cell? (x.add i) = some (.int .u8 (zs.getD i 0))) ∧ ∀ n ∈ zs, (Lit.int .u8 n).wf = true

set_option maxHeartbeats 8000000 in
set_option maxRecDepth 100000 in
theorem walk (a0 : Option Addr) (len0 cap0 : Nat) (its0 : List Itm) (w : World) (w0 : Items w a0 len0 its0) :
    Calls Try.prog 5 #[.slice a0 len0 cap0] w fun e w' => e = .returned (.bool true) ∧ Below w.heap.size w w' := by
  have HI := Lib.hid w0
  have hl0 : (len0 : Int) ≤ 9223372036854775807 := by have := w0.2.1; omega
  obtain ⟨lb, hlb⟩ : ∃ lb, lb = lightB its0 := ⟨_, rfl⟩
  have C0 := light_c a0 len0 cap0 its0 w w0
  rw [← hlb] at C0
  have HC0 := Lib.hid C0
  clear C0 w0
  cases lb
  · clear hlb
    go_enter Try.func5, Try.ntmps5
    go_wp2_with fail
    ((with_reducible refine HC0.out.mono ?_); rintro e u0 ⟨rfl, b0⟩)
    have B0 := Lib.hid b0; clear b0 HC0
    go_wp2_with fail
    ((with_reducible refine (lives2_c _).mono ?_); rintro e u1 ⟨rfl, b1⟩)
    have B1 : Hid (Below w.heap.size w u1) := B0.out.trans (b1.mono B0.out.size)
    clear b1 B0
    go_wp2_with fail
    go_ret
    exact ⟨rfl, B1.out⟩
  · have HLT := Lib.hid (lightB_iff.1 hlb.symm)
    clear hlb
    have HLn : Hid (its0.length = len0 ∧ len0 ≤ 60) := ⟨HI.out.1, by have h1 := HLT.out.2; rw [HI.out.1] at h1; exact h1⟩
    have HOK : Hid (∀ k, k < len0 → its0[k]!.ok ∧ its0[k]!.s.size ≤ 1000) := by
      intro k hk
      obtain ⟨_, _, _, _, _, _, _, _, _, hok⟩ := HI.out.at_ (Below.refl _ _) hk
      exact ⟨hok, HLT.out.1 k (by rw [HLn.out.1]; exact hk)⟩
    have HBL : Hid (∀ k, (itsB (its0.take k)).length ≤ 70000) := by
      intro k
      have h1 := itsB_len (its0.take k) (fun x hx => by
        obtain ⟨j, hj, rfl⟩ := List.mem_iff_getElem.1 (List.mem_of_mem_take hx)
        have := HOK.out j (by rw [← HLn.out.1]; exact hj)
        rw [List.getElem!_eq_getElem?_getD, List.getElem?_eq_getElem hj] at this
        exact this)
      have h2 : (its0.take k).length ≤ 60 := by rw [List.length_take]; have := HLn.out; omega
      omega
    clear HLT
    go_enter Try.func5, Try.ntmps5
    go_wp2_with fail
    ((with_reducible refine HC0.out.mono ?_); rintro e u0 ⟨rfl, b0⟩)
    have B0 := Lib.hid b0; clear b0 HC0
    have B0s := B0.out.size
    go_wp2_with fail
    obtain ⟨gw, hgw⟩ : ∃ gw, gw = u0.heap.size := ⟨_, rfl⟩
    have K0 : Hid (WK w.heap.size w (u0.alloc (.cells #[.pointer none, .int .i64 0] 27)) gw []) := by
      show WK _ _ _ _ _
      rw [hgw]
      exact ⟨Below.alloc B0.out B0s _, _, WS.new u0, fun k hk => by rw [hk]; exact B0s⟩
    rw [← hgw]
    have Hgw := Lib.hid hgw; clear hgw
    go_loopw [15] (fun i wr => ∃ k : Nat, k ≤ len0 ∧ i = .int .i64 (k : Int) ∧ Hid (WK w.heap.size w wr gw (itsB (its0.take k)) ∧ w.heap.size ≤ wr.heap.size)) (fun i _ => len0 - (intOf i).toNat)
    case atStart => exact ⟨0, by omega, rfl, by simpa [itsB] using K0.out, by simp; omega⟩
    case round =>
      obtain ⟨k, hk, rfl, hd⟩ := hrel
      by_cases hlt : k < len0
      · have hltI : (k : Int) < (len0 : Int) := by omega
        have hk0 : (0 : Int) ≤ (k : Int) := by omega
        obtain ⟨b, off, rfl, p0, p1, p2, p3, p4, p5, hok⟩ := HI.out.at_ hd.out.1.1 hlt
        have hs1 := (HOK.out k hlt).2
        have htk : itsB (its0.take (k + 1)) = itsB (its0.take k) ++ itB its0[k]! := itsB_take (by rw [HLn.out.1]; exact hlt)
        obtain ⟨x, hx⟩ : ∃ x, x = its0[k]! := ⟨_, rfl⟩
        rw [← hx] at p0 p1 p2 p3 p4 p5 hok hs1 htk
        have hcp := WK.copy hd.out.1 hd.out.2 x
        obtain ⟨xk, xn, xi, xis, xs, xm⟩ := x
        simp only at p0 p1 p2 p3 p4 p5 hcp
        obtain ⟨n, hn⟩ : ∃ n : Nat, (n : Int) = xn := ⟨xn.toNat, by have := hok.2.1.1; simp only at this; omega⟩
        have hn64 : n < 2 ^ 64 := by have := hok.2.1.2; simp only at this; omega
        have hi64 : -9223372036854775808 ≤ xi ∧ xi ≤ 9223372036854775807 := hok.2.2.1
        have e1 : itB ⟨xk, xn, xi, xis, xs, xm⟩ = natB n ++ natB (fz xi) ++ natB (if xis then 1 else 0) ++ natB xs.size ++ xs.data.toList := by
          unfold itB; simp only; rw [← hn]; simp
        rw [← hn] at p1 hcp
        have hl1 := HBL.out (k + 1)
        rw [htk, e1] at hl1
        simp only [List.length_append] at hl1
        have C1 := wkq_nat hcp hn64 (by omega)
        rw [World.size_alloc] at C1
        have HC1 := Lib.hid C1
        have HCI := Lib.hid hi64
        have HL1 := Lib.hid hl1
        have HS1 : Hid (xs.size ≤ 1000) := hs1
        have HTK := Lib.hid htk
        have HE1 := Lib.hid e1
        clear hx hok hs1 htk hcp hn hn64 hi64 e1 hl1 C1 HI HOK K0
        go_wp2_with fail
        ((with_reducible refine HC1.out.mono ?_); rintro e w1 ⟨rfl, ⟨_, c2, c3, c4⟩, K1⟩)
        have HC2 := Lib.hid (wkq_int K1.out HCI.out (by rw [List.length_append]; have := HL1.out; omega))
        clear HC1 K1 p0 p1 p2 p3 p4 p5
        go_wp2_with fail
        ((with_reducible refine HC2.out.mono ?_); rintro e w2 ⟨rfl, ⟨_, _, c3', c4'⟩, K2⟩)
        have HC3 := Lib.hid (wkq_flag (is := xis) K2.out (by simp only [List.length_append]; have := HL1.out; omega))
        clear HC2 K2 c2 c3 c4
        go_wp2_with fail
        ((with_reducible refine HC3.out.mono ?_); rintro e w3 ⟨rfl, ⟨_, _, _, c4⟩, K3⟩)
        have HC4 := Lib.hid (wkq_text (s := xs) K3.out (by simp only [List.length_append]; have := HL1.out; omega) HS1.out)
        clear HC3 K3 c3' c4'
        go_wp2_with fail
        ((with_reducible refine HC4.out.mono ?_); rintro e w4 ⟨rfl, _, K4⟩)
        have K5 : Hid (WK w.heap.size w w4 gw (itsB (its0.take (k + 1))) ∧ w.heap.size ≤ w4.heap.size) := by
          refine ⟨?_, K4.out.2.1⟩
          rw [HTK.out, HE1.out]
          simpa only [List.append_assoc] using K4.out.wk
        clear HC4 K4 c4
        go_wp2_with fail
        exact ⟨⟨k + 1, by omega, by go_num, K5⟩, by simp [intOf]; omega⟩
      · have hkl : k = len0 := by omega
        subst hkl
        have KW : Hid (WK w.heap.size w wr gw (itsB its0) ∧ w.heap.size ≤ wr.heap.size) := by
          have := hd.out
          rw [List.take_of_length_le (by have := HLn.out.1; omega)] at this
          exact this
        have hball : Hid ((itsB its0).length ≤ 70000) := by
          have := HBL.out k
          rw [List.take_of_length_le (by have := HLn.out.1; omega)] at this
          exact this
        obtain ⟨l, hl⟩ : ∃ l, l = itsB its0 := ⟨_, rfl⟩
        rw [← hl] at KW hball
        have Hl := Lib.hid hl; clear hl hd K0
        have CB : Hid (Calls Try.prog 23 #[.pointer (some ⟨gw, 0, none⟩)] wr fun e w' => ∃ A c, e = .returned (.slice A l.length c) ∧ Hid (SlB w' A l.length l ∧ Below w.heap.size w w')) := by
          obtain ⟨h1, S, h2, h3⟩ := KW.out.1
          refine (Bytes_c gw S l wr h2 (by have := hball.out; omega)).mono fun e w' h => ?_
          obtain ⟨A, c, he, ho, hb⟩ := h
          exact ⟨A, c, he, own_slb0 ho, h1.trans (hb.mono KW.out.2)⟩
        go_wp2_with fail
        ((with_reducible refine CB.out.mono ?_); rintro e v1 ⟨A, c, rfl, KB⟩)
        have CO := Lib.hid (Open_c A l.length c l v1 KB.out.1)
        have BV : Hid (Below w.heap.size w v1) := KB.out.2
        clear CB KW KB
        have hbs := BV.out.size
        go_wp2_with fail
        ((with_reducible refine CO.out.mono ?_); rintro e v2 ⟨rfl, hv2⟩)
        obtain ⟨g, hg⟩ : ∃ g, g = v1.heap.size := ⟨_, rfl⟩
        have R0 : Hid (Below w.heap.size w v2 ∧ w.heap.size ≤ g ∧ RB v2 g l false ∧ w.heap.size ≤ v2.heap.size) := by
          rw [← hv2, hg]
          exact ⟨Below.alloc BV.out hbs _, hbs, heap_alloc_new v1 _, by simp; omega⟩
        rw [← hg]
        clear hv2 hg CO BV hbs
        obtain ⟨wo, hwo⟩ : ∃ wo : World, wo = v2 := ⟨_, rfl⟩
        go_wp2_with fail
        go_loopw [38] (fun i wr => ∃ j : Nat, j ≤ k ∧ i = .int .i64 (j : Int) ∧ Hid (Below w.heap.size w wr ∧ w.heap.size ≤ g ∧ RB wr g (itsB (its0.drop j)) false ∧ w.heap.size ≤ wr.heap.size)) (fun i _ => k - (intOf i).toNat)
        case atStart => exact ⟨0, by omega, rfl, by show _ ∧ _; have := R0.out; rw [Hl.out] at this; simpa using this⟩
        case round =>
          obtain ⟨j, hj, rfl, hd⟩ := hrel
          by_cases hjt : j < k
          · have hltI : (j : Int) < (k : Int) := by omega
            have hk0 : (0 : Int) ≤ (j : Int) := by omega
            obtain ⟨b, off, rfl, p0, p1, p2, p3, p4, p5, hok⟩ := HI.out.at_ hd.out.1 hjt
            have hs1 := (HOK.out j hjt).2
            have htk : itsB (its0.drop j) = itB its0[j]! ++ itsB (its0.drop (j + 1)) := itsB_drop (by rw [HLn.out.1]; exact hjt)
            have htl : (itsB (its0.drop (j + 1))).length ≤ 1000000 := by
              have e0 : itsB its0 = itsB (its0.take (j + 1)) ++ itsB (its0.drop (j + 1)) := by
                have h := List.take_append_drop (j + 1) its0
                unfold itsB
                rw [← List.flatMap_append, h]
              have h2 := hball.out
              rw [Hl.out, e0, List.length_append] at h2
              omega
            obtain ⟨x, hx⟩ : ∃ x, x = its0[j]! := ⟨_, rfl⟩
            rw [← hx] at p0 p1 p2 p3 p4 p5 hok hs1 htk
            have hr := hd.out.2.2.1
            rw [htk] at hr
            have hbw := hd.out.1
            have hgb := hd.out.2.1
            have hwb := hd.out.2.2.2
            have hcp : RKq w.heap.size w (wr.alloc (.cells #[.int .i64 x.k, .int .u64 x.n, .int .i64 x.i, .bool x.is, .string x.s, .int .i64 x.m] 31)) g (itB x ++ itsB (its0.drop (j + 1))) wr.heap.size x :=
              ⟨Below.alloc hbw hwb _, by simp; omega, hgb, hr.alloc _, heap_alloc_new wr _, by have := hr.lt; omega⟩
            obtain ⟨xk, xn, xi, xis, xs, xm⟩ := x
            simp only at p0 p1 p2 p3 p4 p5 hcp
            obtain ⟨n, hn⟩ : ∃ n : Nat, (n : Int) = xn := ⟨xn.toNat, by have := hok.2.1.1; simp only at this; omega⟩
            have hn64 : n < 2 ^ 64 := by have := hok.2.1.2; simp only at this; omega
            have hi64 : -9223372036854775808 ≤ xi ∧ xi ≤ 9223372036854775807 := hok.2.2.1
            have e1 : itB ⟨xk, xn, xi, xis, xs, xm⟩ = natB n ++ natB (fz xi) ++ natB (if xis then 1 else 0) ++ natB xs.size ++ xs.data.toList := by
              unfold itB; simp only; rw [← hn]; simp
            rw [e1] at hcp
            simp only [List.append_assoc] at hcp
            rw [← hn] at p1 hcp
            have HS1 : Hid (xs.size ≤ 1000) := hs1
            have HTL := Lib.hid htl
            have HCP := Lib.hid hcp
            have HCI := Lib.hid hi64
            have HN := Lib.hid hn64
            clear hx hok hs1 htk hcp hn hn64 hi64 e1 htl hr hbw hgb hwb HI HOK R0
            go_upto_region 16 with fail
            clear p0 p1 p2 p3 p4 p5
            generalize hW : wr.alloc (Obj.cells _ 31) = W0
            rw [hW] at HCP
            obtain ⟨q, hq⟩ : ∃ q, q = wr.heap.size := ⟨_, rfl⟩
            rw [← hq] at HCP ⊢
            have HC1 := Lib.hid (rkq_nat HCP.out.drew HN.out (Nat.le_refl _))
            obtain ⟨d1, d2, d3, d4⟩ := HCP.out.2.2.2.2.1.all
            simp only at d1 d2 d3 d4
            have HWR := Lib.hid hW
            have HQ := Lib.hid hq
            clear hW hq hd HCP HN
            go_region_held3 (fun w' => w'.cell? ⟨q, 1, none⟩ = some (.int .u64 (n : Int)) ∧ w'.cell? ⟨q, 2, none⟩ = some (.int .i64 xi) ∧ w'.cell? ⟨q, 3, none⟩ = some (.bool xis) ∧ w'.cell? ⟨q, 4, none⟩ = some (.string xs)) (go_keep)
              (first
                | ((with_reducible refine HC1.out.mono ?_); rintro e w1 ⟨rfl, ⟨x1, x2, x3, x4⟩, K1⟩; have HC2 := Lib.hid (rkq_int K1.out HCI.out); clear HC1 K1)
                | ((with_reducible refine HC2.out.mono ?_); rintro e w2 ⟨rfl, ⟨x1, x2, x3, x4⟩, K2⟩; have HC3 := Lib.hid (rkq_flag K2.out); clear HC2 K2)
                | ((with_reducible refine HC3.out.mono ?_); rintro e w3 ⟨rfl, ⟨x1, x2, x3, x4⟩, K3⟩; have HC4 := Lib.hid (rkq_text K3.out HS1.out HTL.out); clear HC3 K3)
                | ((with_reducible refine HC4.out.mono ?_); rintro e w4 ⟨rfl, ⟨x1, x2, x3, x4⟩, K4⟩; clear HC4))
            have K5 : Hid (Below w.heap.size w w4 ∧ w.heap.size ≤ g ∧ RB w4 g (itsB (its0.drop (j + 1))) false ∧ w.heap.size ≤ w4.heap.size) := ⟨K4.out.1, K4.out.2.2.1, K4.out.2.2.2.1, K4.out.2.1⟩
            clear K4 x1 x2 x3 x4 d1 d2 d3 d4
            go_wp2_with fail
            exact ⟨⟨j + 1, by omega, by go_num, K5⟩, by simp [intOf]; omega⟩
          · have hjk : j = k := by omega
            subst hjk
            have hd2 : RB wr g [] false := by
              have := hd.out.2.2.1
              rw [List.drop_of_length_le (by have := HLn.out.1; omega)] at this
              simpa [itsB] using this
            have CE : Hid (Calls Try.prog 37 #[.pointer (some ⟨g, 0, none⟩)] wr fun e w' => e = .returned (.int .i64 0) ∧ wr = w') := End_c g [] false wr hd2
            have HB := Lib.hid hd.out.1
            clear hd2 hd R0
            go_wp2_with fail
            ((with_reducible refine CE.out.mono ?_); rintro e w5 ⟨rfl, rfl⟩)
            go_wp2_with fail
            ((with_reducible refine (lives2_c _).mono ?_); rintro e v6 ⟨rfl, b6⟩)
            have B6 : Hid (Below w.heap.size w v6) := HB.out.trans (b6.mono HB.out.size)
            clear b6 HB CE
            go_wp2_with fail
            go_ret
            exact ⟨rfl, B6.out⟩

set_option maxRecDepth 100000 in
theorem lifted (os : Os) (started : os.Started) (H : Type) (enc : TypeId × Value → H) :
    ReturnsInHanded {} Try.checked os 5 .any (Rows.codecBackSpec.pre6 enc Try.prog Try.f5 Rows.codecBackRow.domain false) (Rows.codecBackSpec.post enc Try.prog Try.f5 false true false false) := by
  refine returnsInHanded_of_change (C := Try.checked) own started (by kernel_rfl) Try.func5
    (ChangeSpec.witness6 (enc := enc) (C := Try.checked) false ⟨#[], #[.slice none 0 0], []⟩ 8 (by kernel_rfl) (by kernel_rfl) (by kernel_rfl) (by kernel_rfl)) ?_
  intro W base args ds gs before hval0 hW hcnd _
  have hval : ∀ (j : Nat) t v, Try.f5.params[j]? = some t → args[j]? = some v → Value.okWide Try.prog W .any base t v := hval0
  have hW' := hW
  obtain ⟨p, q, hA0, hV, rfl, hfz, hnd⟩ := hW
  have hA : DataW.TrodAll enc Try.prog W 0 (fun _ => true) true Try.f5.params.toList args.toList ds p := hA0
  rw [Try.params5] at hA hval
  obtain ⟨v0, vs0, d0, ds0, p0, q0, hargs, rfl, rfl, h0, r0⟩ := trodAll_cons hA
  obtain ⟨rfl, rfl, rfl⟩ := trodAll_nil r0
  obtain rfl : args = #[v0] := by cases args; simp_all
  obtain ⟨rfl, rfl⟩ := trodVars_none hV
  obtain ⟨a0, len0, cap0, rfl⟩ := okWide_slice Try.underlying22 (hval 0 22 v0 rfl rfl)
  have k0 := h0
  have lt0 : ∀ x ∈ p0, x.block < W.heap.size := by obtain ⟨m, hm⟩ := k0; exact DataW.trod_lt m _ _ _ hm
  obtain ⟨its0, w0⟩ := open_items h0
  clear hA0 hval0
  refine (walk a0 len0 cap0 its0 W w0).mono fun e W' ⟨he, bel⟩ => ?_
  subst he
  exact ⟨_, rfl, _, _, _, [], _, [], hW', trodAll_mk1 (shut_bool Try.underlying4 _), (trodAll_cons_mk (Below.trod laidOut (by kernel_rfl) (of_decide_eq_true (by kernel_rfl)) k0 bel lt0) trodAll_mk0), rfl, bel.frame _, fun h => by cases h⟩

theorem over : Rows.codecBackRow.holds Try.pinned (OpenSpec.ofChange Rows.codecBackSpec) :=
  OpenClaim.holds_of_wide 5 Try.f5 rfl rfl rfl rfl rfl rfl rfl ⟨rfl, rfl, rfl, rfl, rfl⟩ rfl rfl rfl rfl rfl (by kernel_rfl) Try.func5 (by kernel_rfl)
    (of_decide_eq_true (by kernel_rfl)) (by unfold Func.isWrapper; first | (rw [if_pos (by decide +kernel)]; kernel_rfl) | (rw [if_neg (by decide +kernel)]; exact ⟨rfl, rfl⟩))
    (fun os started H enc _ => lifted os started H enc)

theorem proved : Rows.CodecBackSaid := over
end Go.Proofs.Ytoechhbdpkjppaa.codecBack
