/-
  CodecReads: for every input the law returns true, and each argument reads behind the call as it read before. No condition.
-/
import Derived.Test.YtoechhbdpkjppaaRows
import Derived.WalkKit
import Derived.ProofKit
import Derived.OpenShut
import Derived.ChangeOld
import Derived.Below
import Derived.Carry
import Derived.Test.YtoechhbdpkjppaaRd
namespace Go.Proofs.Ytoechhbdpkjppaa.codecReads
open Go.ChangeShapes Go.WideShapes Go.ChangeAt Go.RowKit
set_option linter.unusedVariables false

theorem own : ownKnob Try.prog.godebug = none := by kernel_rfl
theorem laidOut : laidOutB Try.prog = true := by kernel_rfl

/-- A slice of bytes that came in, as the form reads it. -/
def IsRow (w : World) (a : Option Addr) (len cap : Nat) (zs : List Int) : Prop :=
  (a = none ∧ len = 0 ∧ cap = 0 ∧ zs = []) ∨ ∃ x, a = some x ∧ len ≤ cap ∧ cap ≤ maxLen ∧ zs.length = cap ∧ (∀ i, i < zs.length → w.cell? (x.add i) = some (.int .u8 (zs.getD i 0))) ∧ ∀ n ∈ zs, (Lit.int .u8 n).wf = true

set_option maxHeartbeats 8000000 in
set_option maxRecDepth 100000 in
theorem walk (a0 : Option Addr) (len0 cap0 : Nat) (z0 : List Int) (a1 : Option Addr) (len1 cap1 : Nat) (its1 : List Itm) (w : World) (w0 : IsRow w a0 len0 cap0 z0) (w1 : Items w a1 len1 its1) :
    Calls Try.prog 4 #[.slice a0 len0 cap0, .slice a1 len1 cap1] w fun e w' => e = .returned (.bool true) ∧ Below w.heap.size w w' := by
  have HI := Lib.hid w1
  have hl1 : (len1 : Int) ≤ 9223372036854775807 := by have := w1.2.1; omega
  obtain ⟨l, hsl⟩ := slB_of_row w0
  have HS := Lib.hid hsl
  have HRow : Hid (len0 ≤ cap0 ∧ cap0 ≤ maxLen ∧ ∀ a, a0 = some a → 0 < cap0 → a.block < w.heap.size) := by
    rcases w0 with ⟨rfl, rfl, rfl, _⟩ | ⟨x, rfl, h1, h2, h3, h4, _⟩
    · exact ⟨Nat.le_refl _, Nat.zero_le _, fun a e => by cases e⟩
    · refine ⟨h1, h2, fun a e h0 => ?_⟩
      injection e with e
      subst e
      have := World.block_lt_of_cell? w (x.add 0) (h4 0 (by omega))
      rwa [add_block] at this
  obtain ⟨lb, hlb⟩ : ∃ lb, lb = lightB its1 := ⟨_, rfl⟩
  have C0 := light_c a1 len1 cap1 its1 w w1
  rw [← hlb] at C0
  have HC0 := Lib.hid C0
  clear C0 w1 w0 hsl hlb
  by_cases hlen : 2000 < len0
  · have hl' : (2000 : Int) < (len0 : Int) := by omega
    clear hlen HC0
    go_enter Try.func4, Try.ntmps4
    go_wp2_with fail
    ((with_reducible refine (lives2_c _).mono ?_); rintro e u1 ⟨rfl, b1⟩)
    have B1 := Lib.hid b1; clear b1
    go_wp2_with fail
    go_ret
    exact ⟨rfl, B1.out⟩
  · have hl' : (len0 : Int) ≤ 2000 := by omega
    have HL0 : Hid (len0 ≤ 2000) := by show _ ≤ _; omega
    clear hlen
    cases lb
    · go_enter Try.func4, Try.ntmps4
      go_wp2_with fail
      ((with_reducible refine HC0.out.mono ?_); rintro e u0 ⟨rfl, b0⟩)
      have B0 := Lib.hid b0; clear b0 HC0
      go_wp2_with fail
      ((with_reducible refine (lives2_c _).mono ?_); rintro e u1 ⟨rfl, b1⟩)
      have B1 : Hid (Below w.heap.size w u1) := B0.out.trans (b1.mono B0.out.size)
      clear b1 B0
      go_wp2_with fail
      go_ret
      exact ⟨rfl, B1.out⟩
    · go_enter Try.func4, Try.ntmps4
      go_wp2_with fail
      ((with_reducible refine HC0.out.mono ?_); rintro e u0 ⟨rfl, b0⟩)
      have B0 := Lib.hid b0; clear b0 HC0
      have HO := Lib.hid (Open_c a0 len0 cap0 l u0 (HS.out.fr (S := fun _ => False) (Fr.of_below B0.out) (fun _ _ _ h => h)))
      go_wp2_with fail
      ((with_reducible refine HO.out.mono ?_); rintro e u1 ⟨rfl, hu1⟩)
      clear HO
      have Hu1 := Lib.hid hu1; clear hu1
      obtain ⟨g, hg⟩ : ∃ g, g = u0.heap.size := ⟨_, rfl⟩
      obtain ⟨q, hq⟩ : ∃ q, q = u1.heap.size := ⟨_, rfl⟩
      have K0 : Hid (PR w.heap.size w (u1.alloc (.cells #[.slice a0 len0 cap0, .bool false] 45)) g l false q l false) := by
        have b01 : Below u0.heap.size u0 u1 := by rw [← Hu1.out]; exact (Below.refl _ _).alloc (Nat.le_refl _) _
        have b1 : Below w.heap.size w u1 := B0.out.trans (b01.mono B0.out.size)
        have hs1 : u1.heap.size = u0.heap.size + 1 := by rw [← Hu1.out]; simp
        have hB := B0.out.size
        have hr1 : RB u1 g l false := by rw [hg, ← Hu1.out]; exact heap_alloc_new u0 _
        show PR _ _ _ _ _ _ _ _ _
        refine ⟨b1.alloc b1.size _, by simp; omega, by omega, by omega, by omega, hr1.alloc _, a0, len0, cap0, by rw [hq]; exact heap_alloc_new u1 _, ?_, HRow.out.1, HRow.out.2.1, by omega, HRow.out.2.2⟩
        exact HS.out.fr (S := fun _ => False) (Fr.of_below (b1.alloc b1.size _)) (fun _ _ _ h => h)
      have HTL0 : Hid (l.length ≤ 2000) := by show _ ≤ _; have := HS.out.1; have := HL0.out; omega
      rw [← hg]
      clear HS HRow B0 Hu1 hg HL0
      go_wp2_with fail
      rw [← hq]
      clear hq
      go_loopw [28] (fun i wr => ∃ (k : Nat) (t : List UInt8) (b : Bool), k ≤ len1 ∧ i = .int .i64 (k : Int) ∧ Hid (PR w.heap.size w wr g t b q t b ∧ t.length ≤ 2000)) (fun i _ => len1 - (intOf i).toNat)
      case atStart => exact ⟨0, l, false, by omega, rfl, K0.out, HTL0.out⟩
      case round =>
        obtain ⟨k, t, b, hk, rfl, hd⟩ := hrel
        clear K0 HTL0
        by_cases hlt : k < len1
        · have hltI : (k : Int) < (len1 : Int) := by omega
          have hk0 : (0 : Int) ≤ (k : Int) := by omega
          obtain ⟨bk, off, rfl, p0, p1, p2, p3, p4, p5, hok⟩ := HI.out.at_ hd.out.1.1 hlt
          obtain ⟨x, hx⟩ : ∃ x, x = its1[k]! := ⟨_, rfl⟩
          rw [← hx] at p0 p1 p2 p3 p4 p5 hok
          have hcp := PR.copy hd.out.1 x
          have HT0 : Hid (t.length ≤ 2000) := hd.out.2
          clear hd hx
          obtain ⟨xk, xn, xi, xis, xs, xm⟩ := x
          simp only at p0 p1 p2 p3 p4 p5 hcp
          obtain ⟨n, hn⟩ : ∃ n : Nat, (n : Int) = xn := ⟨xn.toNat, by have := hok.2.1.1; simp only at this; omega⟩
          have hm64 : -9223372036854775808 ≤ xm ∧ xm ≤ 9223372036854775807 := hok.2.2.2.1
          rw [← hn] at p1 hcp
          clear hn hok
          by_cases k0 : xk = 0
          · subst k0
            clear hm64
            obtain ⟨m, t', b', hr⟩ : ∃ m t' b', rdN t b n = (m, t', b') := ⟨_, _, _, rfl⟩
            have HTL : Hid (t'.length ≤ 2000) := by show _ ≤ _; have := (rdN_bound t b n).2.2; rw [hr] at this; have := HT0.out; simp only at *; omega
            have HG := fun (W : World) lq bq (h : PC w.heap.size w W g t b q lq bq wr.heap.size ⟨0, (n : Int), xi, xis, xs, xm⟩) => pcg_nat h hr
            have HQ := fun (W : World) lg bg (h : PC w.heap.size w W g lg bg q t b wr.heap.size ⟨0, (n : Int), xi, xis, xs, xm⟩) => pcq_nat h hr
            clear hr
            obtain ⟨p, hp⟩ : ∃ p, p = wr.heap.size := ⟨_, rfl⟩
            rw [← hp] at hcp HG HQ
            have HGa := Lib.hid HG; have HQa := Lib.hid HQ
            clear HG HQ
            go_wp2_with fail
            rw [← hp]
            clear hp
            have H0 := Lib.hid hcp.drew
            obtain ⟨x1, x5⟩ := hcp.drew.all
            simp only at x1 x5
            clear hcp
            go_region_held3 (fun w' => w'.cell? ⟨p, 1, none⟩ = some (.int .u64 (n : Int))) (go_keep)
              (first
                | ((with_reducible refine (HGa.out _ _ _ H0.out).mono ?_); rintro e y1 ⟨rfl, ⟨x1, x5⟩, G1⟩; clear H0)
                | ((with_reducible refine (HQa.out _ _ _ H0.out).mono ?_); rintro e y1 ⟨rfl, ⟨x1, x5⟩, G2⟩; clear H0)
                | ((with_reducible refine (HQa.out _ _ _ G1.out).mono ?_); rintro e y2 ⟨rfl, ⟨x1, x5⟩, GF⟩; clear G1)
                | ((with_reducible refine (HGa.out _ _ _ G2.out).mono ?_); rintro e y2 ⟨rfl, ⟨x1, x5⟩, GF⟩; clear G2)
                | fail)
            clear x1 x5 HGa HQa
            all_goals
              obtain ⟨A, N, c, y0, y1, HSM⟩ := PR.same GF.out.1.drew
              have HFIN : Hid (PR w.heap.size w _ g t' b' q t' b') := GF.out.1.drew
              obtain ⟨v, hv⟩ : ∃ v, v = endE t' b' := ⟨_, rfl⟩
              rw [← hv] at HSM
              have SM1 := Lib.hid HSM.out.1
              have SM2 := Lib.hid HSM.out.2.1
              have SM3 := Lib.hid HSM.out.2.2.1
              have SM4 := Lib.hid HSM.out.2.2.2
              clear HSM
              clear GF hv
              go_wp2_with fail
              go_region_held3 (fun w' => w'.cell? ⟨q, 0, none⟩ = some (.slice A N c) ∧ w'.cell? ⟨q, 1, none⟩ = some (.bool b')) (go_keep)
                (first
                  | ((with_reducible refine SM1.out.mono ?_); rintro e z1 ⟨rfl, rfl⟩)
                  | ((with_reducible refine SM2.out.mono ?_); rintro e z1 ⟨rfl, rfl⟩)
                  | ((with_reducible refine SM3.out.mono ?_); rintro e z1 ⟨rfl, rfl⟩)
                  | ((with_reducible refine SM4.out.mono ?_); rintro e z1 ⟨rfl, rfl⟩)
                  | fail)
              all_goals
                clear SM1 SM2 SM3 SM4
                go_wp2_with fail
                exact ⟨⟨k + 1, t', b', by omega, by go_num, HFIN.out, HTL.out⟩, by simp [intOf]; omega⟩
          · by_cases k1 : xk = 1
            · subst k1
              clear hm64 k0
              obtain ⟨m, t', b', hr⟩ : ∃ m t' b', rdN t b 18446744073709551615 = (m, t', b') := ⟨_, _, _, rfl⟩
              have HTL : Hid (t'.length ≤ 2000) := by show _ ≤ _; have := (rdN_bound t b 18446744073709551615).2.2; rw [hr] at this; have := HT0.out; simp only at *; omega
              obtain ⟨z, hz⟩ : ∃ z, z = zz m := ⟨_, rfl⟩
              have HG := fun (W : World) lq bq (h : PC w.heap.size w W g t b q lq bq wr.heap.size ⟨1, (n : Int), xi, xis, xs, xm⟩) => pcg_int h hr
              have HQ := fun (W : World) lg bg (h : PC w.heap.size w W g lg bg q t b wr.heap.size ⟨1, (n : Int), xi, xis, xs, xm⟩) => pcq_int h hr
              rw [← hz] at HG HQ
              clear hr hz
              have HGa := Lib.hid HG; have HQa := Lib.hid HQ
              clear HG HQ
              have HCP := Lib.hid hcp
              clear hcp
              go_wp2_with fail
              ((with_reducible refine (HGa.out _ _ _ HCP.out).mono ?_); rintro e y1 ⟨rfl, _, G1⟩)
              clear HCP HGa
              go_wp2_with fail
              ((with_reducible refine (HQa.out _ _ _ G1.out).mono ?_); rintro e y2 ⟨rfl, _, GF⟩)
              clear G1 HQa
              obtain ⟨A, N, c, y0, y1, HSM⟩ := PR.same GF.out.1.drew
              have HFIN : Hid (PR w.heap.size w _ g t' b' q t' b') := GF.out.1.drew
              obtain ⟨v, hv⟩ : ∃ v, v = endE t' b' := ⟨_, rfl⟩
              rw [← hv] at HSM
              have SM1 := Lib.hid HSM.out.1
              have SM2 := Lib.hid HSM.out.2.1
              have SM3 := Lib.hid HSM.out.2.2.1
              have SM4 := Lib.hid HSM.out.2.2.2
              clear HSM
              clear GF hv
              go_wp2_with fail
              go_region_held3 (fun w' => w'.cell? ⟨q, 0, none⟩ = some (.slice A N c) ∧ w'.cell? ⟨q, 1, none⟩ = some (.bool b')) (go_keep)
                (first
                  | ((with_reducible refine SM1.out.mono ?_); rintro e z1 ⟨rfl, rfl⟩)
                  | ((with_reducible refine SM2.out.mono ?_); rintro e z1 ⟨rfl, rfl⟩)
                  | ((with_reducible refine SM3.out.mono ?_); rintro e z1 ⟨rfl, rfl⟩)
                  | ((with_reducible refine SM4.out.mono ?_); rintro e z1 ⟨rfl, rfl⟩)
                  | fail)
              all_goals
                clear SM1 SM2 SM3 SM4
                go_wp2_with fail
                exact ⟨⟨k + 1, t', b', by omega, by go_num, HFIN.out, HTL.out⟩, by simp [intOf]; omega⟩
            · by_cases k2 : xk = 2
              · subst k2
                clear hm64 k0 k1
                obtain ⟨m, t', b', hr⟩ : ∃ m t' b', rdN t b 1 = (m, t', b') := ⟨_, _, _, rfl⟩
                have HTL : Hid (t'.length ≤ 2000) := by show _ ≤ _; have := (rdN_bound t b 1).2.2; rw [hr] at this; have := HT0.out; simp only at *; omega
                obtain ⟨z, hz⟩ : ∃ z, z = ((m : Int) == 1) := ⟨_, rfl⟩
                have HG := fun (W : World) lq bq (h : PC w.heap.size w W g t b q lq bq wr.heap.size ⟨2, (n : Int), xi, xis, xs, xm⟩) => pcg_flag h hr
                have HQ := fun (W : World) lg bg (h : PC w.heap.size w W g lg bg q t b wr.heap.size ⟨2, (n : Int), xi, xis, xs, xm⟩) => pcq_flag h hr
                rw [← hz] at HG HQ
                clear hr hz
                have HGa := Lib.hid HG; have HQa := Lib.hid HQ
                clear HG HQ
                have HCP := Lib.hid hcp
                clear hcp
                go_wp2_with fail
                ((with_reducible refine (HGa.out _ _ _ HCP.out).mono ?_); rintro e y1 ⟨rfl, _, G1⟩)
                clear HCP HGa
                go_wp2_with fail
                ((with_reducible refine (HQa.out _ _ _ G1.out).mono ?_); rintro e y2 ⟨rfl, _, GF⟩)
                clear G1 HQa
                obtain ⟨A, N, c, y0, y1, HSM⟩ := PR.same GF.out.1.drew
                have HFIN : Hid (PR w.heap.size w _ g t' b' q t' b') := GF.out.1.drew
                obtain ⟨v, hv⟩ : ∃ v, v = endE t' b' := ⟨_, rfl⟩
                rw [← hv] at HSM
                have SM1 := Lib.hid HSM.out.1
                have SM2 := Lib.hid HSM.out.2.1
                have SM3 := Lib.hid HSM.out.2.2.1
                have SM4 := Lib.hid HSM.out.2.2.2
                clear HSM
                clear GF hv
                go_wp2_with fail
                go_region_held3 (fun w' => w'.cell? ⟨q, 0, none⟩ = some (.slice A N c) ∧ w'.cell? ⟨q, 1, none⟩ = some (.bool b')) (go_keep)
                  (first
                    | ((with_reducible refine SM1.out.mono ?_); rintro e z1 ⟨rfl, rfl⟩)
                    | ((with_reducible refine SM2.out.mono ?_); rintro e z1 ⟨rfl, rfl⟩)
                    | ((with_reducible refine SM3.out.mono ?_); rintro e z1 ⟨rfl, rfl⟩)
                    | ((with_reducible refine SM4.out.mono ?_); rintro e z1 ⟨rfl, rfl⟩)
                    | fail)
                all_goals
                  clear SM1 SM2 SM3 SM4
                  go_wp2_with fail
                  exact ⟨⟨k + 1, t', b', by omega, by go_num, HFIN.out, HTL.out⟩, by simp [intOf]; omega⟩
              · by_cases k3 : xk = 3
                · subst k3
                  clear k0 k1 k2
                  obtain ⟨s, t', b', hr⟩ : ∃ s t' b', rdT t b xm = (s, t', b') := ⟨_, _, _, rfl⟩
                  have HTL : Hid (t'.length ≤ 2000) := by show _ ≤ _; have := rdT_bound t b xm; rw [hr] at this; have := HT0.out; simp only at *; omega
                  have hl9 : t.length ≤ 9223372036854775807 := by have := HT0.out; omega
                  obtain ⟨z, hz⟩ : ∃ z, z = Str s := ⟨_, rfl⟩
                  have HG := fun (W : World) lq bq (h : PC w.heap.size w W g t b q lq bq wr.heap.size ⟨3, (n : Int), xi, xis, xs, xm⟩) => pcg_text h hm64.1 hm64.2 hl9 hr
                  have HQ := fun (W : World) lg bg (h : PC w.heap.size w W g lg bg q t b wr.heap.size ⟨3, (n : Int), xi, xis, xs, xm⟩) => pcq_text h hm64.2 hr
                  clear hr hz hl9 hm64
                  obtain ⟨p, hp⟩ : ∃ p, p = wr.heap.size := ⟨_, rfl⟩
                  rw [← hp] at hcp HG HQ
                  have HGa := Lib.hid HG; have HQa := Lib.hid HQ
                  clear HG HQ
                  go_wp2_with fail
                  rw [← hp]
                  clear hp
                  have H0 := Lib.hid hcp.drew
                  obtain ⟨x1, x5⟩ := hcp.drew.all
                  simp only at x1 x5
                  clear hcp
                  go_region_held3 (fun w' => w'.cell? ⟨p, 5, none⟩ = some (.int .i64 xm)) (go_keep)
                    (first
                      | ((with_reducible refine (HGa.out _ _ _ H0.out).mono ?_); rintro e y1 ⟨rfl, ⟨x1, x5⟩, G1⟩; clear H0)
                      | ((with_reducible refine (HQa.out _ _ _ H0.out).mono ?_); rintro e y1 ⟨rfl, ⟨x1, x5⟩, G2⟩; clear H0)
                      | ((with_reducible refine (HQa.out _ _ _ G1.out).mono ?_); rintro e y2 ⟨rfl, ⟨x1, x5⟩, GF⟩; clear G1)
                      | ((with_reducible refine (HGa.out _ _ _ G2.out).mono ?_); rintro e y2 ⟨rfl, ⟨x1, x5⟩, GF⟩; clear G2)
                      | fail)
                  clear x1 x5 HGa HQa
                  all_goals
                    obtain ⟨A, N, c, y0, y1, HSM⟩ := PR.same GF.out.1.drew
                    have HFIN : Hid (PR w.heap.size w _ g t' b' q t' b') := GF.out.1.drew
                    obtain ⟨v, hv⟩ : ∃ v, v = endE t' b' := ⟨_, rfl⟩
                    rw [← hv] at HSM
                    have SM1 := Lib.hid HSM.out.1
                    have SM2 := Lib.hid HSM.out.2.1
                    have SM3 := Lib.hid HSM.out.2.2.1
                    have SM4 := Lib.hid HSM.out.2.2.2
                    clear HSM
                    clear GF hv
                    go_wp2_with fail
                    go_region_held3 (fun w' => w'.cell? ⟨q, 0, none⟩ = some (.slice A N c) ∧ w'.cell? ⟨q, 1, none⟩ = some (.bool b')) (go_keep)
                      (first
                        | ((with_reducible refine SM1.out.mono ?_); rintro e z1 ⟨rfl, rfl⟩)
                        | ((with_reducible refine SM2.out.mono ?_); rintro e z1 ⟨rfl, rfl⟩)
                        | ((with_reducible refine SM3.out.mono ?_); rintro e z1 ⟨rfl, rfl⟩)
                        | ((with_reducible refine SM4.out.mono ?_); rintro e z1 ⟨rfl, rfl⟩)
                        | fail)
                    all_goals
                      clear SM1 SM2 SM3 SM4
                      go_wp2_with fail
                      exact ⟨⟨k + 1, t', b', by omega, by go_num, HFIN.out, HTL.out⟩, by simp [intOf]; omega⟩
                · have f0 : (xk == 0) = false := by simp [k0]
                  have f1 : (xk == 1) = false := by simp [k1]
                  have f2 : (xk == 2) = false := by simp [k2]
                  have f3 : (xk == 3) = false := by simp [k3]
                  clear k0 k1 k2 k3 hm64
                  obtain ⟨t', ht'⟩ : ∃ t', t' = ([] : List UInt8) := ⟨_, rfl⟩
                  obtain ⟨b', hb'⟩ : ∃ b', b' = true := ⟨_, rfl⟩
                  have HTL : Hid (t'.length ≤ 2000) := by show _ ≤ _; rw [ht']; simp
                  have HG := fun (W : World) lq bq (h : PC w.heap.size w W g t b q lq bq wr.heap.size ⟨xk, (n : Int), xi, xis, xs, xm⟩) => pcg_fail h
                  have HQ := fun (W : World) lg bg (h : PC w.heap.size w W g lg bg q t b wr.heap.size ⟨xk, (n : Int), xi, xis, xs, xm⟩) => pcq_fail h
                  rw [← ht', ← hb'] at HG HQ
                  clear ht' hb'
                  have HGa := Lib.hid HG; have HQa := Lib.hid HQ
                  clear HG HQ
                  have HCP := Lib.hid hcp
                  clear hcp
                  go_wp2_with fail
                  ((with_reducible refine (HGa.out _ _ _ HCP.out).mono ?_); rintro e y1 ⟨rfl, _, G1⟩)
                  clear HCP HGa
                  go_wp2_with fail
                  ((with_reducible refine (HQa.out _ _ _ G1.out).mono ?_); rintro e y2 ⟨rfl, _, GF⟩)
                  clear G1 HQa
                  obtain ⟨A, N, c, y0, y1, HSM⟩ := PR.same GF.out.1.drew
                  have HFIN : Hid (PR w.heap.size w _ g t' b' q t' b') := GF.out.1.drew
                  obtain ⟨v, hv⟩ : ∃ v, v = endE t' b' := ⟨_, rfl⟩
                  rw [← hv] at HSM
                  have SM1 := Lib.hid HSM.out.1
                  have SM2 := Lib.hid HSM.out.2.1
                  have SM3 := Lib.hid HSM.out.2.2.1
                  have SM4 := Lib.hid HSM.out.2.2.2
                  clear HSM
                  clear GF hv
                  go_wp2_with fail
                  go_region_held3 (fun w' => w'.cell? ⟨q, 0, none⟩ = some (.slice A N c) ∧ w'.cell? ⟨q, 1, none⟩ = some (.bool b')) (go_keep)
                    (first
                      | ((with_reducible refine SM1.out.mono ?_); rintro e z1 ⟨rfl, rfl⟩)
                      | ((with_reducible refine SM2.out.mono ?_); rintro e z1 ⟨rfl, rfl⟩)
                      | ((with_reducible refine SM3.out.mono ?_); rintro e z1 ⟨rfl, rfl⟩)
                      | ((with_reducible refine SM4.out.mono ?_); rintro e z1 ⟨rfl, rfl⟩)
                      | fail)
                  all_goals
                    clear SM1 SM2 SM3 SM4
                    go_wp2_with fail
                    exact ⟨⟨k + 1, t', b', by omega, by go_num, HFIN.out, HTL.out⟩, by simp [intOf]; omega⟩
        · have hkl : k = len1 := by omega
          subst hkl
          have B0 : Hid (Below w.heap.size w wr) := hd.out.1.1
          clear hd
          go_wp2_with fail
          ((with_reducible refine (lives2_c _).mono ?_); rintro e u9 ⟨rfl, b1⟩)
          have B1 : Hid (Below w.heap.size w u9) := B0.out.trans (b1.mono B0.out.size)
          clear b1 B0
          go_wp2_with fail
          go_ret
          exact ⟨rfl, B1.out⟩

set_option maxRecDepth 100000 in
theorem lifted (os : Os) (started : os.Started) (H : Type) (enc : TypeId × Value → H) :
    ReturnsInHanded {} Try.checked os 4 .any (Rows.codecReadsSpec.pre6 enc Try.prog Try.f4 Rows.codecReadsRow.domain false) (Rows.codecReadsSpec.post enc Try.prog Try.f4 false true false false) := by
  refine returnsInHanded_of_change (C := Try.checked) own started (by kernel_rfl) Try.func4
    (ChangeSpec.witness6 (enc := enc) (C := Try.checked) false ⟨#[], #[.slice none 0 0, .slice none 0 0], []⟩ 8 (by kernel_rfl) (by kernel_rfl) (by kernel_rfl) (by kernel_rfl)) ?_
  intro W base args ds gs before hval0 hW hcnd _
  have hval : ∀ (j : Nat) t v, Try.f4.params[j]? = some t → args[j]? = some v → Value.okWide Try.prog W .any base t v := hval0
  have hW' := hW
  obtain ⟨p, q, hA0, hV, rfl, hfz, hnd⟩ := hW
  have hA : DataW.TrodAll enc Try.prog W 0 (fun _ => true) true Try.f4.params.toList args.toList ds p := hA0
  rw [Try.params4] at hA hval
  obtain ⟨v0, vs0, d0, ds0, p0, q0, hargs, rfl, rfl, h0, r0⟩ := trodAll_cons hA
  obtain ⟨v1, vs1, d1, ds1, p1, q1, rfl, rfl, rfl, h1, r1⟩ := trodAll_cons r0
  obtain ⟨rfl, rfl, rfl⟩ := trodAll_nil r1
  obtain rfl : args = #[v0, v1] := by cases args; simp_all
  obtain ⟨rfl, rfl⟩ := trodVars_none hV
  obtain ⟨a0, len0, cap0, rfl⟩ := okWide_slice Try.underlying28 (hval 0 28 v0 rfl rfl)
  have k0 := h0
  have lt0 : ∀ x ∈ p0, x.block < W.heap.size := by obtain ⟨m, hm⟩ := k0; exact DataW.trod_lt m _ _ _ hm
  obtain ⟨z0, w0⟩ : ∃ zs, IsRow W a0 len0 cap0 zs := by
    obtain ⟨fuel, hf⟩ := h0
    rcases open_ints Try.underlying28 Try.underlying5 (by kernel_rfl) hf with ⟨hcs, _⟩ | ⟨x, l, c, zs, hcs, _, hl, hm, hz, _, hcell, hwz⟩
    · simp [Value.cells] at hcs
      obtain ⟨rfl, rfl, rfl⟩ := hcs
      exact ⟨[], .inl ⟨rfl, rfl, rfl, rfl⟩⟩
    · simp [Value.cells] at hcs
      obtain ⟨rfl, rfl, rfl⟩ := hcs
      exact ⟨zs, .inr ⟨_, rfl, hl, hm, by simpa using hz, hcell, hwz⟩⟩
  obtain ⟨a1, len1, cap1, rfl⟩ := okWide_slice Try.underlying22 (hval 1 22 v1 rfl rfl)
  have k1 := h1
  have lt1 : ∀ x ∈ p1, x.block < W.heap.size := by obtain ⟨m, hm⟩ := k1; exact DataW.trod_lt m _ _ _ hm
  obtain ⟨its1, w1⟩ := open_items h1
  clear hA0 hval0
  refine (walk a0 len0 cap0 z0 a1 len1 cap1 its1 W w0 w1).mono fun e W' ⟨he, bel⟩ => ?_
  subst he
  exact ⟨_, rfl, _, _, _, [], _, [], hW', trodAll_mk1 (shut_bool Try.underlying4 _), (trodAll_cons_mk (Below.trod laidOut (by kernel_rfl) (of_decide_eq_true (by kernel_rfl)) k0 bel lt0) (trodAll_cons_mk (Below.trod laidOut (by kernel_rfl) (of_decide_eq_true (by kernel_rfl)) k1 bel lt1) trodAll_mk0)), rfl, bel.frame _, fun h => by cases h⟩

theorem over : Rows.codecReadsRow.holds Try.pinned (OpenSpec.ofChange Rows.codecReadsSpec) :=
  OpenClaim.holds_of_wide 4 Try.f4 rfl rfl rfl rfl rfl rfl rfl ⟨rfl, rfl, rfl, rfl, rfl⟩ rfl rfl rfl rfl rfl (by kernel_rfl) Try.func4 (by kernel_rfl)
    (of_decide_eq_true (by kernel_rfl)) (by unfold Func.isWrapper; first | (rw [if_pos (by decide +kernel)]; kernel_rfl) | (rw [if_neg (by decide +kernel)]; exact ⟨rfl, rfl⟩))
    (fun os started H enc _ => lifted os started H enc)

theorem proved : Rows.CodecReadsSaid := over
end Go.Proofs.Ytoechhbdpkjppaa.codecReads
