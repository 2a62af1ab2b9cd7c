/-
  CodecWrites: for every input the law returns true, and each argument reads behind the call as it read before. No condition.
-/
import Derived.Test.YtoechhbdpkjppaaRows
import Derived.WalkKit
import Derived.ProofKit
import Derived.OpenShut
import Derived.ChangeOld
import Derived.Below
import Derived.Carry
import Derived.Test.YtoechhbdpkjppaaWr
namespace Go.Proofs.Ytoechhbdpkjppaa.codecWrites
open Go.ChangeShapes Go.WideShapes Go.ChangeAt Go.RowKit
set_option linter.unusedVariables false

theorem own : ownKnob Try.prog.godebug = none := by kernel_rfl
theorem laidOut : laidOutB Try.prog = true := by kernel_rfl

/-- A slice of bytes that came in, as the form reads it. -/
def IsRow (w : World) (a : Option Addr) (len cap : Nat) (zs : List Int) : Prop :=
  (a = none ∧ len = 0 ∧ cap = 0 ∧ zs = []) ∨ ∃ x, a = some x ∧ len ≤ cap ∧ cap ≤ maxLen ∧ zs.length = cap ∧ (∀ i, i < zs.length → w.cell? (x.add i) = some (.int .u8 (zs.getD i 0))) ∧ ∀ n ∈ zs, (Lit.int .u8 n).wf = true

set_option maxHeartbeats 8000000 in
set_option maxRecDepth 100000 in
theorem walk (a0 : Option Addr) (len0 cap0 : Nat) (its0 : List Itm) (w : World) (w0 : Items w a0 len0 its0) :
    Calls Try.prog 3 #[.slice a0 len0 cap0] w fun e w' => e = .returned (.bool true) ∧ Below w.heap.size w w' := by
  have HI := Lib.hid w0
  have hl0 : (len0 : Int) ≤ 9223372036854775807 := by have := w0.2.1; omega
  obtain ⟨lb, hlb⟩ : ∃ lb, lb = lightB its0 := ⟨_, rfl⟩
  have C0 := light_c a0 len0 cap0 its0 w w0
  rw [← hlb] at C0
  have HC0 := Lib.hid C0
  clear C0 w0
  cases lb
  · clear hlb
    go_enter Try.func3, Try.ntmps3
    go_wp2_with fail
    ((with_reducible refine HC0.out.mono ?_); rintro e u0 ⟨rfl, b0⟩)
    have B0 := Lib.hid b0; clear b0 HC0
    go_wp2_with fail
    ((with_reducible refine (lives2_c _).mono ?_); rintro e u1 ⟨rfl, b1⟩)
    have B1 : Hid (Below w.heap.size w u1) := B0.out.trans (b1.mono B0.out.size)
    clear b1 B0
    go_wp2_with fail
    go_ret
    exact ⟨rfl, B1.out⟩
  · have HLT := Lib.hid (lightB_iff.1 hlb.symm)
    clear hlb
    have HLn : Hid (its0.length = len0 ∧ len0 ≤ 60) := ⟨HI.out.1, by have h1 := HLT.out.2; rw [HI.out.1] at h1; exact h1⟩
    have HOK : Hid (∀ k, k < len0 → its0[k]!.ok ∧ its0[k]!.s.size ≤ 1000) := by
      intro k hk
      obtain ⟨_, _, _, _, _, _, _, _, _, hok⟩ := HI.out.at_ (Below.refl _ _) hk
      exact ⟨hok, HLT.out.1 k (by rw [HLn.out.1]; exact hk)⟩
    have HBL : Hid (∀ k, (wrsB (its0.take k)).length ≤ 70000) := by
      intro k
      have h1 := wrsB_len (its0.take k) (fun x hx => by
        obtain ⟨j, hj, rfl⟩ := List.mem_iff_getElem.1 (List.mem_of_mem_take hx)
        have := HOK.out j (by rw [← HLn.out.1]; exact hj)
        rw [List.getElem!_eq_getElem?_getD, List.getElem?_eq_getElem hj] at this
        exact this)
      have h2 : (its0.take k).length ≤ 60 := by rw [List.length_take]; have := HLn.out; omega
      omega
    clear HLT
    obtain ⟨i0, hi0, hz0, hz1, hz2⟩ := info_parts info_u8
    go_enter Try.func3, Try.ntmps3
    go_wp2_with fail
    ((with_reducible refine HC0.out.mono ?_); rintro e u0 ⟨rfl, b0⟩)
    have B0 := Lib.hid b0; clear b0 HC0
    have B0s := B0.out.size
    go_wp2_with fail
    obtain ⟨gw, hgw⟩ : ∃ gw, gw = u0.heap.size := ⟨_, rfl⟩
    have K0 : Hid (WB0 w.heap.size w (u0.alloc (.cells #[.pointer none, .int .i64 0] 27)) gw [] none 0 0 []) := by
      show WB0 _ _ _ _ _ _ _ _ _
      rw [hgw]
      exact ⟨Below.alloc B0.out B0s _, by simp; omega, ⟨_, WS.new u0, fun k hk => by rw [hk]; exact B0s, fun k hk => by simp [Value.ownBlock] at hk⟩, World.ownsRow_nil _ _ _ _⟩
    rw [← hgw]
    have Hgw := Lib.hid hgw; clear hgw
    go_loopw [13, 4] (fun i v wr => ∃ (k : Nat) (A : Option Addr) (c : Nat), k ≤ len0 ∧ i = .int .i64 (k : Int) ∧ v = .slice A (wrsB (its0.take k)).length c ∧ Hid (WB0 w.heap.size w wr gw (wrsB (its0.take k)) A (wrsB (its0.take k)).length c (wrsB (its0.take k)))) (fun i _ _ => len0 - (intOf i).toNat)
    case atStart => exact ⟨0, none, 0, by omega, rfl, by simp [wrsB], by show WB0 _ _ _ _ _ _ _ _ _; simpa [wrsB] using K0.out⟩
    case round =>
      obtain ⟨k, A, c, hk, rfl, rfl, hd⟩ := hrel
      by_cases hlt : k < len0
      · have hltI : (k : Int) < (len0 : Int) := by omega
        have hk0 : (0 : Int) ≤ (k : Int) := by omega
        obtain ⟨b, off, rfl, p0, p1, p2, p3, p4, p5, hok⟩ := HI.out.at_ hd.out.1 hlt
        have hs1 := (HOK.out k hlt).2
        have htk : wrsB (its0.take (k + 1)) = wrsB (its0.take k) ++ wrB its0[k]! := wrsB_take (by rw [HLn.out.1]; exact hlt)
        have hL7 := HBL.out k
        obtain ⟨x, hx⟩ : ∃ x, x = its0[k]! := ⟨_, rfl⟩
        rw [← hx] at p0 p1 p2 p3 p4 p5 hok hs1 htk
        have hcp := WB0.copy hd.out x
        obtain ⟨L, hL⟩ : ∃ L, L = wrsB (its0.take k) := ⟨_, rfl⟩
        rw [← hL] at hcp htk hL7 ⊢
        clear hL hd K0
        obtain ⟨xk, xn, xi, xis, xs, xm⟩ := x
        simp only at p0 p1 p2 p3 p4 p5 hcp
        obtain ⟨n, hn⟩ : ∃ n : Nat, (n : Int) = xn := ⟨xn.toNat, by have := hok.2.1.1; simp only at this; omega⟩
        have hn64 : n < 2 ^ 64 := by have := hok.2.1.2; simp only at this; omega
        have hi64 : -9223372036854775808 ≤ xi ∧ xi ≤ 9223372036854775807 := hok.2.2.1
        have hs1' : xs.size ≤ 1000 := hs1
        rw [← hn] at p1 hcp
        by_cases k0 : xk = 0
        · subst k0
          have e1 : wrB ⟨0, xn, xi, xis, xs, xm⟩ = natB n ++ natB (n / 2) := by unfold wrB; simp only; rw [← hn]; simp
          obtain ⟨hf, hhf⟩ : ∃ hf, hf = n / 2 := ⟨_, rfl⟩
          have hq2 : (n : Int) / 2 = (hf : Int) := by omega
          have hnI : (n : Int) ≤ 18446744073709551615 := by omega
          have hf64 : hf < 2 ^ 64 := by omega
          have hwr : IntKind.u64.wrap (hf : Int) = (hf : Int) := by rw [IntKind.wrap_u64]; omega
          rw [← hhf] at e1
          obtain ⟨LA, hLA⟩ : ∃ LA, LA = natB n := ⟨_, rfl⟩
          obtain ⟨LH, hLH⟩ : ∃ LH, LH = natB hf := ⟨_, rfl⟩
          have hpA : 0 < LA.length := by rw [hLA]; exact natB_pos _
          have hpH : 0 < LH.length := by rw [hLH]; exact natB_pos _
          have hA10 : LA.length ≤ 10 := by rw [hLA]; exact natB_len10 hn64
          have hH10 : LH.length ≤ 10 := by rw [hLH]; exact natB_len10 hf64
          have hTK : Hid (wrsB (its0.take (k + 1)) = L ++ LA ++ LH) := by show _ = _; rw [htk, hLA, hLH, e1, List.append_assoc]
          have hW0 := wb_nat2 hcp hn64 hf64 (by omega)
          rw [World.size_alloc, ← hLA, ← hLH, ← List.append_assoc] at hW0
          have HW1 := Lib.hid hW0
          have hRA := fun W => refNat_c n hn64 W
          have hRH := fun W => refNat_c hf hf64 W
          rw [← hLA] at hRA
          rw [← hLH] at hRH
          have HRA := Lib.hid hRA
          have HRH := Lib.hid hRH
          have HlA : Hid ((LA.map byt).length = LA.length * 1) := by show _ = _; simp
          have HlH : Hid ((LH.map byt).length = LH.length * 1) := by show _ = _; simp
          have HmA : Hid (L.length + LA.length ≤ maxLen) := by show _ ≤ _; unfold maxLen; omega
          have HmH : Hid (L.length + LA.length + LH.length ≤ maxLen) := by show _ ≤ _; unfold maxLen; omega
          have HbA : Hid ((L.length + LA.length) * 1 ≤ 140737488355328) := by show _ ≤ _; omega
          have HbH : Hid ((L.length + LA.length + LH.length) * 1 ≤ 140737488355328) := by show _ ≤ _; omega
          clear hW0 hRA hRH hLA hLH hx hok hs1 htk hcp e1 HI HOK hn hi64 hs1' hhf hn64 hf64
          go_wp2_with fail
          ((with_reducible refine HW1.out.mono ?_); rintro e u1 ⟨rfl, ⟨c1, c2, c3, c4⟩, K1⟩)
          clear HW1 p0 p1 p2 p3 p4 p5
          have H0 := Lib.hid K1.out.drew
          clear K1
          obtain ⟨q, hq⟩ : ∃ q, q = wr.heap.size := ⟨_, rfl⟩
          rw [← hq] at c1 c2 c3 c4 H0 ⊢
          have HQ := Lib.hid hq; clear hq
          go_upto_region 13 with fail
          go_region_held3 (fun w' => w'.cell? ⟨q, 1, none⟩ = some (.int .u64 (n : Int)) ∧ w'.cell? ⟨q, 2, none⟩ = some (.int .i64 xi)) (go_keep)
            (first
              | ((with_reducible refine (wb_ref H0.out (HRA.out _)).mono ?_); rintro e y1 ⟨p1, d1, rfl, ⟨x1, x2, _, _⟩, G1⟩; clear H0)
              | ((with_reducible refine (wb_ref H0.out (HRH.out _)).mono ?_); rintro e y1 ⟨p2, d2, rfl, ⟨x1, x2, _, _⟩, G2⟩; clear H0)
              | ((with_reducible refine (wb_ref G1.out.1 (HRH.out _)).mono ?_); rintro e y2 ⟨p2, d2, rfl, ⟨x1, x2, _, _⟩, G3⟩; have G12 := Lib.hid (And.intro G3.out.1 (And.intro (G1.out.2.1.below G3.out.2.2) G3.out.2.1)); clear G1 G3)
              | ((with_reducible refine (wb_ref G2.out.1 (HRA.out _)).mono ?_); rintro e y2 ⟨p1, d1, rfl, ⟨x1, x2, _, _⟩, G3⟩; have G12 := Lib.hid (And.intro G3.out.1 (And.intro G3.out.2.1 (G2.out.2.1.below G3.out.2.2))); clear G2 G3)
              | ((with_reducible refine (wb_ref G4.out (HRH.out _)).mono ?_); rintro e y4 ⟨p2, d2, rfl, ⟨x1, x2, _, _⟩, G3⟩; have G45 := Lib.hid (And.intro G3.out.1 G3.out.2.1); clear G4 G3)
              | ((refine step_append_lies _ (by rfl) _ _ _ (by rfl) w.heap.size 5 i0 _ 1 1 Try.underlying28 hi0 hz0 hz1 hz2 rfl Nat.one_pos _ _ _ (by rfl) G1.out.1.2.2.2.2 ⟨p1, 0, none⟩ LA.length d1 (LA.map byt) (by rfl) HlA.out (G1.out.2.1.news hpA) (byt_one LA) hpA HmA.out HbA.out G1.out.1.2.1 y1.heap.size rfl ?_); intro gg cp y3 hown hgr hat hlt3; have G4 := Lib.hid (G1.out.1.append hown hgr hat); obtain ⟨x1, x2, _, _⟩ := G4.out.all; clear G1 hown hgr hat)
              | ((refine step_append_lies _ (by rfl) _ _ _ (by rfl) w.heap.size 5 i0 _ 1 1 Try.underlying28 hi0 hz0 hz1 hz2 rfl Nat.one_pos _ _ _ (by rfl) G12.out.1.2.2.2.2 ⟨p1, 0, none⟩ LA.length d1 (LA.map byt) (by rfl) HlA.out (G12.out.2.1.news hpA) (byt_one LA) hpA HmA.out HbA.out G12.out.1.2.1 y2.heap.size rfl ?_); intro gg cp y4 hown hgr hat hlt3; have G45 := Lib.hid (And.intro (G12.out.1.append hown hgr hat) (G12.out.2.2.append (k := LA.length) (cap := cp) (G12.out.2.2.lt hpH) hgr hat)); obtain ⟨x1, x2, _, _⟩ := G45.out.1.all; clear G12 hown hgr hat)
              | ((refine step_append_lies _ (by rfl) _ _ _ (by rfl) w.heap.size 5 i0 _ 1 1 Try.underlying28 hi0 hz0 hz1 hz2 rfl Nat.one_pos _ _ _ (by rfl) G45.out.1.2.2.2.2 ⟨p2, 0, none⟩ LH.length d2 (LH.map byt) (by rfl) HlH.out (G45.out.2.news hpH) (byt_one LH) hpH HmH.out HbH.out G45.out.1.2.1 y4.heap.size rfl ?_); intro gg2 cp2 y5 hown hgr hat hlt4; have GF := Lib.hid (G45.out.1.append hown hgr hat); obtain ⟨x1, x2, _, _⟩ := GF.out.all; clear G45 hown hgr hat)
              | fail)
          all_goals
            have GF0 := Lib.hid GF.out.wb0
            clear GF c1 c2 c3 c4
            go_wp2_with fail
            refine ⟨⟨k + 1, some ⟨gg2, 0, none⟩, cp2, by omega, by go_num, ?_, ?_⟩, by simp [intOf]; omega⟩
            · rw [hTK.out, List.length_append, List.length_append]
            · show WB0 _ _ _ _ _ _ _ _ _
              rw [hTK.out, List.length_append, List.length_append]; exact GF0.out
        · by_cases k1 : xk = 1
          · subst k1
            have e1 : wrB ⟨1, xn, xi, xis, xs, xm⟩ = natB (fz xi) := rfl
            have HI64 := Lib.hid hi64
            clear k0 hn hn64 hi64 hs1'

            obtain ⟨LT, hLT⟩ : ∃ LT, LT = natB (fz xi) := ⟨_, rfl⟩
            have hpT : 0 < LT.length := by rw [hLT]; exact natB_pos _
            have hTK : Hid (wrsB (its0.take (k + 1)) = L ++ LT) := by show _ = _; rw [htk, hLT, e1]
            have hlT : L.length + LT.length ≤ 70000 := by rw [← List.length_append, ← hTK.out]; exact HBL.out (k + 1)
            have hW0 := wb_int hcp HI64.out (by omega)
            rw [World.size_alloc] at hW0
            have HW1 := Lib.hid hW0
            clear hW0
            have HR1 := Lib.hid (fun W => refInt_c xi HI64.out.1 HI64.out.2 W)
            have HLT := Lib.hid hLT
            clear hx hok hs1 htk hcp e1 HI HOK hLT
            go_wp2_with fail
            ((with_reducible refine HW1.out.mono ?_); rintro e u1 ⟨rfl, ⟨c1, c2, c3, c4⟩, K1⟩)
            clear HW1 p0 p1 p2 p3 p4 p5
            have HR2 := Lib.hid (wb_ref K1.out (HR1.out u1))
            clear HR1 K1
            rw [← HLT.out] at HR2
            go_wp2_with fail
            ((with_reducible refine HR2.out.mono ?_); rintro e y1 ⟨p1, d1, rfl, _, G1⟩)
            clear HR2 c1 c2 c3 c4
            go_wp2_with (at_builtin; refine wpList_append_lies _ rfl _ _ 28 rfl w.heap.size 5 i0 (.int .u8 0) 1 1 Try.underlying28 hi0 hz0 hz1 hz2 rfl (by decide) _ _ _ rfl G1.out.1.2.2.2.2 ⟨p1, 0, none⟩ LT.length d1 (LT.map byt) rfl ?c0 (G1.out.2.1.news hpT) (byt_one LT) hpT ?c1 ?c2 ?c3 y1.heap.size ?c4 ?_)
            case c0 => simp
            case c1 => unfold maxLen; omega
            case c2 => omega
            case c3 => exact G1.out.1.2.1
            case c4 => rfl
            intro gg cp y3 hown hgr hat hlt3
            have GF := Lib.hid (G1.out.1.append hown hgr hat).wb0
            clear hown hgr hat G1
            go_wp2_with fail
            refine ⟨⟨k + 1, some ⟨gg, 0, none⟩, cp, by omega, by go_num, ?_, ?_⟩, by simp [intOf]; omega⟩
            · rw [hTK.out, List.length_append]
            · show WB0 _ _ _ _ _ _ _ _ _
              rw [hTK.out, List.length_append]; exact GF.out
          · by_cases k2 : xk = 2
            · subst k2
              have e1 : wrB ⟨2, xn, xi, xis, xs, xm⟩ = natB (if xis then 1 else 0) := rfl
              clear k0 k1 hn hn64 hi64 hs1'

              obtain ⟨LT, hLT⟩ : ∃ LT, LT = natB (if xis then 1 else 0) := ⟨_, rfl⟩
              have hpT : 0 < LT.length := by rw [hLT]; exact natB_pos _
              have hTK : Hid (wrsB (its0.take (k + 1)) = L ++ LT) := by show _ = _; rw [htk, hLT, e1]
              have hlT : L.length + LT.length ≤ 70000 := by rw [← List.length_append, ← hTK.out]; exact HBL.out (k + 1)
              have HW1 := Lib.hid (wb_flag (is := xis) hcp (by omega))
              have HR1 := Lib.hid (fun W => refFlag_l xis W)
              have HLT := Lib.hid hLT
              clear hx hok hs1 htk hcp e1 HI HOK hLT
              go_wp2_with fail
              ((with_reducible refine HW1.out.mono ?_); rintro e u1 ⟨rfl, ⟨c1, c2, c3, c4⟩, K1⟩)
              clear HW1 p0 p1 p2 p3 p4 p5
              have HR2 := Lib.hid (wb_ref K1.out (HR1.out u1))
              clear HR1 K1
              rw [← HLT.out] at HR2
              go_wp2_with fail
              ((with_reducible refine HR2.out.mono ?_); rintro e y1 ⟨p1, d1, rfl, _, G1⟩)
              clear HR2 c1 c2 c3 c4
              go_wp2_with (at_builtin; refine wpList_append_lies _ rfl _ _ 28 rfl w.heap.size 5 i0 (.int .u8 0) 1 1 Try.underlying28 hi0 hz0 hz1 hz2 rfl (by decide) _ _ _ rfl G1.out.1.2.2.2.2 ⟨p1, 0, none⟩ LT.length d1 (LT.map byt) rfl ?c0 (G1.out.2.1.news hpT) (byt_one LT) hpT ?c1 ?c2 ?c3 y1.heap.size ?c4 ?_)
              case c0 => simp
              case c1 => unfold maxLen; omega
              case c2 => omega
              case c3 => exact G1.out.1.2.1
              case c4 => rfl
              intro gg cp y3 hown hgr hat hlt3
              have GF := Lib.hid (G1.out.1.append hown hgr hat).wb0
              clear hown hgr hat G1
              go_wp2_with fail
              refine ⟨⟨k + 1, some ⟨gg, 0, none⟩, cp, by omega, by go_num, ?_, ?_⟩, by simp [intOf]; omega⟩
              · rw [hTK.out, List.length_append]
              · show WB0 _ _ _ _ _ _ _ _ _
                rw [hTK.out, List.length_append]; exact GF.out
            · have e1 : wrB ⟨xk, xn, xi, xis, xs, xm⟩ = natB xs.size ++ xs.data.toList := by unfold wrB; simp only; rw [if_neg k0, if_neg k1, if_neg k2]
              have f0 : (xk == 0) = false := by simp [k0]
              have f1 : (xk == 1) = false := by simp [k1]
              have f2 : (xk == 2) = false := by simp [k2]
              have HS1 := Lib.hid hs1'
              clear k0 k1 k2 hn hn64 hi64 hs1'

              obtain ⟨LT, hLT⟩ : ∃ LT, LT = natB xs.size ++ xs.data.toList := ⟨_, rfl⟩
              have hpT : 0 < LT.length := by rw [hLT]; rw [List.length_append]; have := natB_pos xs.size; omega
              have hTK : Hid (wrsB (its0.take (k + 1)) = L ++ LT) := by show _ = _; rw [htk, hLT, e1]
              have hlT : L.length + LT.length ≤ 70000 := by rw [← List.length_append, ← hTK.out]; exact HBL.out (k + 1)
              have HW1 := Lib.hid (wb_text (s := xs) hcp (by omega) HS1.out)
              have HR1 := Lib.hid (fun W => refText_l xs HS1.out W)
              have HLT := Lib.hid hLT
              clear hx hok hs1 htk hcp e1 HI HOK hLT
              go_wp2_with fail
              ((with_reducible refine HW1.out.mono ?_); rintro e u1 ⟨rfl, ⟨c1, c2, c3, c4⟩, K1⟩)
              clear HW1 p0 p1 p2 p3 p4 p5
              have HR2 := Lib.hid (wb_ref K1.out (HR1.out u1))
              clear HR1 K1
              rw [← HLT.out] at HR2
              go_wp2_with fail
              ((with_reducible refine HR2.out.mono ?_); rintro e y1 ⟨p1, d1, rfl, _, G1⟩)
              clear HR2 c1 c2 c3 c4
              go_wp2_with (at_builtin; refine wpList_append_lies _ rfl _ _ 28 rfl w.heap.size 5 i0 (.int .u8 0) 1 1 Try.underlying28 hi0 hz0 hz1 hz2 rfl (by decide) _ _ _ rfl G1.out.1.2.2.2.2 ⟨p1, 0, none⟩ LT.length d1 (LT.map byt) rfl ?c0 (G1.out.2.1.news hpT) (byt_one LT) hpT ?c1 ?c2 ?c3 y1.heap.size ?c4 ?_)
              case c0 => simp
              case c1 => unfold maxLen; omega
              case c2 => omega
              case c3 => exact G1.out.1.2.1
              case c4 => rfl
              intro gg cp y3 hown hgr hat hlt3
              have GF := Lib.hid (G1.out.1.append hown hgr hat).wb0
              clear hown hgr hat G1
              go_wp2_with fail
              refine ⟨⟨k + 1, some ⟨gg, 0, none⟩, cp, by omega, by go_num, ?_, ?_⟩, by simp [intOf]; omega⟩
              · rw [hTK.out, List.length_append]
              · show WB0 _ _ _ _ _ _ _ _ _
                rw [hTK.out, List.length_append]; exact GF.out
      · have hkl : k = len0 := by omega
        subst hkl
        have hall : its0.take k = its0 := List.take_of_length_le (by have := HLn.out.1; omega)
        have hb7 := HBL.out k
        rw [hall] at hd hb7 ⊢
        obtain ⟨l, hl⟩ : ∃ l, l = wrsB its0 := ⟨_, rfl⟩
        rw [← hl] at hd hb7 ⊢
        clear hl hall K0
        have W5 : Hid (Calls Try.prog 23 #[.pointer (some ⟨gw, 0, none⟩)] wr.drew fun e w' => ∃ A' c', e = .returned (.slice A' l.length c') ∧ Hid (Below w.heap.size w w' ∧ SlB w' A' l.length l ∧ SlB w' A l.length l)) := by
          obtain ⟨h1, h2, ⟨S, hws, hS, hv⟩, ho⟩ := hd.out
          have hwd : WS wr.drew gw S l := hws
          refine (Bytes_c gw S l wr.drew hwd (by omega)).mono fun e w' h => ?_
          obtain ⟨A', c', he, ho', hbb⟩ := h
          exact ⟨A', c', he, h1.drew.trans (hbb.mono h2), own_slb0 ho', own_slb0 (own_fr (S := fun _ => False) (w := wr.drew) ho (Fr.of_below hbb) (fun _ _ h => h))⟩
        have hcv0 : (convert 28 9 (.slice A l.length c)).run Try.prog wr.drew = .ok (Str l) wr.drew := conv_str (own_slb0 (w := wr.drew) hd.out.2.2.2)
        clear hd hb7 HI HOK
        go_wp2_with fail
        go_region_with (first | ((with_reducible refine W5.out.mono ?_); rintro e v5 ⟨A', c', rfl, K5⟩; have hcv1 := conv_str (c := c') K5.out.2.1; have hcv2 := conv_str (c := c) K5.out.2.2) | ((with_reducible refine (lives2_c _).mono ?_); rintro e v6 ⟨rfl, b6⟩))
        all_goals
          have B6 : Hid (Below w.heap.size w v6) := K5.out.1.trans (b6.mono K5.out.1.size)
          clear b6
          go_wp2_with fail
          go_ret
          exact ⟨rfl, B6.out⟩

set_option maxRecDepth 100000 in
theorem lifted (os : Os) (started : os.Started) (H : Type) (enc : TypeId × Value → H) :
    ReturnsInHanded {} Try.checked os 3 .any (Rows.codecWritesSpec.pre6 enc Try.prog Try.f3 Rows.codecWritesRow.domain false) (Rows.codecWritesSpec.post enc Try.prog Try.f3 false true false false) := by
  refine returnsInHanded_of_change (C := Try.checked) own started (by kernel_rfl) Try.func3
    (ChangeSpec.witness6 (enc := enc) (C := Try.checked) false ⟨#[], #[.slice none 0 0], []⟩ 8 (by kernel_rfl) (by kernel_rfl) (by kernel_rfl) (by kernel_rfl)) ?_
  intro W base args ds gs before hval0 hW hcnd _
  have hval : ∀ (j : Nat) t v, Try.f3.params[j]? = some t → args[j]? = some v → Value.okWide Try.prog W .any base t v := hval0
  have hW' := hW
  obtain ⟨p, q, hA0, hV, rfl, hfz, hnd⟩ := hW
  have hA : DataW.TrodAll enc Try.prog W 0 (fun _ => true) true Try.f3.params.toList args.toList ds p := hA0
  rw [Try.params3] at hA hval
  obtain ⟨v0, vs0, d0, ds0, p0, q0, hargs, rfl, rfl, h0, r0⟩ := trodAll_cons hA
  obtain ⟨rfl, rfl, rfl⟩ := trodAll_nil r0
  obtain rfl : args = #[v0] := by cases args; simp_all
  obtain ⟨rfl, rfl⟩ := trodVars_none hV
  obtain ⟨a0, len0, cap0, rfl⟩ := okWide_slice Try.underlying22 (hval 0 22 v0 rfl rfl)
  have k0 := h0
  have lt0 : ∀ x ∈ p0, x.block < W.heap.size := by obtain ⟨m, hm⟩ := k0; exact DataW.trod_lt m _ _ _ hm
  obtain ⟨its0, w0⟩ := open_items h0
  clear hA0 hval0
  refine (walk a0 len0 cap0 its0 W w0).mono fun e W' ⟨he, bel⟩ => ?_
  subst he
  exact ⟨_, rfl, _, _, _, [], _, [], hW', trodAll_mk1 (shut_bool Try.underlying4 _), (trodAll_cons_mk (Below.trod laidOut (by kernel_rfl) (of_decide_eq_true (by kernel_rfl)) k0 bel lt0) trodAll_mk0), rfl, bel.frame _, fun h => by cases h⟩

theorem over : Rows.codecWritesRow.holds Try.pinned (OpenSpec.ofChange Rows.codecWritesSpec) :=
  OpenClaim.holds_of_wide 3 Try.f3 rfl rfl rfl rfl rfl rfl rfl ⟨rfl, rfl, rfl, rfl, rfl⟩ rfl rfl rfl rfl rfl (by kernel_rfl) Try.func3 (by kernel_rfl)
    (of_decide_eq_true (by kernel_rfl)) (by unfold Func.isWrapper; first | (rw [if_pos (by decide +kernel)]; kernel_rfl) | (rw [if_neg (by decide +kernel)]; exact ⟨rfl, rfl⟩))
    (fun os started H enc _ => lifted os started H enc)

theorem proved : Rows.CodecWritesSaid := over
end Go.Proofs.Ytoechhbdpkjppaa.codecWrites
