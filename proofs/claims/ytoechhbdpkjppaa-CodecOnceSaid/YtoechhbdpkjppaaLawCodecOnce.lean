/-
  CodecOnce: for every input the law returns true, and each argument reads behind the call as it read before. No condition.
  (The frame is the kit's shell of a proof, by program; the walk is mine.)
-/
import Derived.Test.YtoechhbdpkjppaaRows
import Derived.WalkKit
import Derived.ProofKit
import Derived.OpenShut
import Derived.ShutString
import Derived.ChangeOld
import Derived.Below
import Derived.Test.YtoechhbdpkjppaaCodL
namespace Go.Proofs.Ytoechhbdpkjppaa.codecOnce
open Go.ChangeShapes Go.WideShapes Go.ChangeAt Go.RowKit
open Go.ChangeMaps (open_string shut_string)
set_option linter.unusedVariables false

theorem own : ownKnob Try.prog.godebug = none := by kernel_rfl
theorem laidOut : laidOutB Try.prog = true := by kernel_rfl

/-- WHAT THE WALK IS TOLD OF A SLICE OF INTEGERS THAT CAME IN: it is nil; or it leads to a row of 'cap' cells, the numbers 'zs' (the first 'len' are its elements, the rest its spare room), each fitting its kind. -/
def IsRow (k : IntKind) (w : World) (a : Option Addr) (len cap : Nat) (zs : List Int) : Prop :=
  (a = none ∧ len = 0 ∧ cap = 0 ∧ zs = []) ∨
  ∃ x, a = some x ∧ len ≤ cap ∧ cap ≤ maxLen ∧ zs.length = cap ∧ (∀ i, i < zs.length → w.cell? (x.add i) = some (.int k (zs.getD i 0))) ∧ ∀ n ∈ zs, (Lit.int k n).wf = true

/-! ### STEP 1: THE WALK: the Go text returns true, AND WRITES NOTHING THAT WAS THERE: 'Below w.heap.size w w'' (Derived/Below.lean: '.refl', '.alloc', '.drew', '.setCell' at a new block, '.trans'). Open each 'IsRow' by 'rcases' AHEAD of 'go_enter'; part every test ahead of the walk. -/
set_option maxHeartbeats 4000000 in
set_option maxRecDepth 100000 in
theorem walk (a0 : Option Addr) (len0 cap0 : Nat) (z0 : List Int) (w : World) (w0 : IsRow .u8 w a0 len0 cap0 z0) :
    Calls Try.prog 6 #[.slice a0 len0 cap0] w fun e w' => e = .returned (.bool true) ∧ Below w.heap.size w w' := by
  obtain ⟨l, hsl⟩ := slB_of_row w0
  have hll := hsl.1
  have HS := Lib.hid hsl
  clear w0 hsl
  by_cases hlen : 2000 < len0
  · have hl' : (2000 : Int) < (len0 : Int) := by omega
    clear hlen hll
    go_enter Try.func6, Try.ntmps6
    go_wp2_with fail
    ((with_reducible refine (lives2_c _).mono ?_); rintro e u1 ⟨rfl, b1⟩)
    have B1 := Lib.hid b1; clear b1
    go_wp2_with fail
    go_ret
    exact ⟨rfl, B1.out⟩
  · have hl' : (len0 : Int) ≤ 2000 := by omega
    have hl2 : l.length ≤ 2000 := by omega
    have HL := Lib.hid hl2
    clear hlen hll hl2
    obtain ⟨n, t1, b1, h1⟩ : ∃ n t b, rdN l false 18446744073709551615 = (n, t, b) := ⟨_, _, _, rfl⟩
    obtain ⟨m, t2, b2, h2⟩ : ∃ n t b, rdN t1 b1 18446744073709551615 = (n, t, b) := ⟨_, _, _, rfl⟩
    obtain ⟨f, t3, b3, h3⟩ : ∃ n t b, rdN t2 b2 1 = (n, t, b) := ⟨_, _, _, rfl⟩
    obtain ⟨s, t4, b4, h4⟩ : ∃ n t b, rdT t3 b3 5000 = (n, t, b) := ⟨_, _, _, rfl⟩
    have hn64 : n < 2 ^ 64 := by have := (rdN_bound l false 18446744073709551615).2.1; rw [h1] at this; exact this
    have hm64 : m < 2 ^ 64 := by have := (rdN_bound t1 b1 18446744073709551615).2.1; rw [h2] at this; exact this
    have q1 : t1.length ≤ l.length := by have := (rdN_bound l false 18446744073709551615).2.2; rw [h1] at this; exact this
    have q2 : t2.length ≤ t1.length := by have := (rdN_bound t1 b1 18446744073709551615).2.2; rw [h2] at this; exact this
    have q3 : t3.length ≤ t2.length := by have := (rdN_bound t2 b2 1).2.2; rw [h3] at this; exact this
    have Q3 : Hid (t3.length ≤ 2000) := by show _ ≤ _; have := HL.out; omega
    have Hn := Lib.hid hn64
    have Hm := Lib.hid hm64
    have HH1 := Lib.hid h1
    have HH2 := Lib.hid h2
    have HH3 := Lib.hid h3
    have HH4 := Lib.hid h4
    clear h1 h2 h3 h4 hn64 hm64 q1 q2 q3
    have HO := Lib.hid (Open_c a0 len0 cap0 l w HS.out)
    have hr0 : RB (w.alloc (.cells #[Str l, .bool false] 56)) w.heap.size l false := heap_alloc_new w _
    have C1 := rNat_c w.heap.size l false 18446744073709551615 _ hr0 n t1 b1 HH1.out
    rw [show ((18446744073709551615 : Nat) : Int) = 18446744073709551615 from rfl] at C1
    have C1' := Lib.hid C1
    clear hr0 C1
    obtain ⟨z, hz⟩ : ∃ z, z = zz m := ⟨_, rfl⟩
    have Hz := Lib.hid hz
    obtain ⟨is, his⟩ : ∃ is, is = ((f : Int) == 1) := ⟨_, rfl⟩
    have His := Lib.hid his
    obtain ⟨ee, hee⟩ : ∃ ee, ee = endE t4 b4 := ⟨_, rfl⟩
    have Hee := Lib.hid hee
    have C2 : Hid (∀ W, RB W w.heap.size t1 b1 → Calls Try.prog 27 #[.pointer (some ⟨w.heap.size, 0, none⟩)] W fun e w' => e = .returned (.int .i64 z) ∧ Tch w.heap.size W w' ∧ RB w' w.heap.size t2 b2) := by
      intro W hW; rw [hz]; exact rInt_c _ _ _ W hW m t2 b2 HH2.out
    have C3 : Hid (∀ W, RB W w.heap.size t2 b2 → Calls Try.prog 29 #[.pointer (some ⟨w.heap.size, 0, none⟩)] W fun e w' => e = .returned (.bool is) ∧ Tch w.heap.size W w' ∧ RB w' w.heap.size t3 b3) := by
      intro W hW; rw [his]; exact rFlag_c _ _ _ W hW f t3 b3 HH3.out
    have C4 : Hid (∀ W, RB W w.heap.size t3 b3 → Calls Try.prog 31 #[.pointer (some ⟨w.heap.size, 0, none⟩), .int .i64 5000] W fun e w' => e = .returned (Str s) ∧ Tch w.heap.size W w' ∧ RB w' w.heap.size t4 b4) := by
      intro W hW; exact rText_c _ _ _ 5000 W hW (by omega) (by omega) (by have := Q3.out; omega) s t4 b4 HH4.out
    have C5 : Hid (∀ W, RB W w.heap.size t4 b4 → Calls Try.prog 37 #[.pointer (some ⟨w.heap.size, 0, none⟩)] W fun e w' => e = .returned (.int .i64 ee) ∧ W = w') := by
      intro W hW; rw [hee]; exact End_c _ _ _ W hW
    clear hz his hee
    by_cases hend : ee = 0
    · subst hend
      have heq := once_eq HH1.out HH2.out HH3.out HH4.out Hee.out.symm
      rw [← Hz.out, ← His.out] at heq
      have Heq := Lib.hid heq; clear heq
      have hzb : -9223372036854775808 ≤ z ∧ z ≤ 9223372036854775807 := by rw [Hz.out]; exact zz_bd Hm.out
      have Hzb := Lib.hid hzb; clear hzb
      have hlens : natB n ++ natB (fz z) ++ natB (if is then 1 else 0) ++ natB s.length ++ s = l := Heq.out
      have hle : (natB n).length + (natB (fz z)).length + (natB (if is then 1 else 0)).length + (natB s.length).length + s.length = l.length := by rw [← hlens]; simp [Nat.add_assoc]
      have Hle := Lib.hid hle; clear hle hlens
      go_enter Try.func6, Try.ntmps6
      go_wp2_with fail
      ((with_reducible refine HO.out.mono ?_); rintro e u0 ⟨rfl, rfl⟩)
      go_wp2_with fail
      ((with_reducible refine C1'.out.mono ?_); rintro e u1 ⟨rfl, T1, R1⟩)
      have B1 : Hid (Below w.heap.size w u1) := T1.of_alloc.below (Nat.le_refl _) (Nat.le_refl _)
      clear T1 C1' HO
      have D2 := Lib.hid (C2.out u1 R1); clear R1 C2
      go_wp2_with fail
      ((with_reducible refine D2.out.mono ?_); rintro e u2 ⟨rfl, T2, R2⟩)
      have B2 : Hid (Below w.heap.size w u2) := B1.out.trans (T2.below (Nat.le_refl _) B1.out.size)
      clear T2 B1 D2
      have D3 := Lib.hid (C3.out u2 R2); clear R2 C3
      go_wp2_with fail
      ((with_reducible refine D3.out.mono ?_); rintro e u3 ⟨rfl, T3, R3⟩)
      have B3 : Hid (Below w.heap.size w u3) := B2.out.trans (T3.below (Nat.le_refl _) B2.out.size)
      clear T3 B2 D3
      have D4 := Lib.hid (C4.out u3 R3); clear R3 C4
      go_wp2_with fail
      ((with_reducible refine D4.out.mono ?_); rintro e u4 ⟨rfl, T4, R4⟩)
      have B4 : Hid (Below w.heap.size w u4) := B3.out.trans (T4.below (Nat.le_refl _) B3.out.size)
      clear T4 B3 D4
      have D5 := Lib.hid (C5.out u4 R4); clear R4 C5
      go_wp2_with fail
      ((with_reducible refine D5.out.mono ?_); rintro e u5 ⟨rfl, rfl⟩)
      clear D5
      have W1 := wNat1_c u4.heap.size n (· = u4.heap.size) [] _ (WS.new u4) Hn.out (by simp)
      rw [World.size_alloc] at W1
      have HW1 := Lib.hid W1; clear W1
      go_wp2_with fail
      ((with_reducible refine HW1.out.mono ?_); rintro e v1 ⟨rfl, A1⟩)
      clear HW1
      have K1 : Hid (Below w.heap.size w v1 ∧ ∃ S, WS v1 u4.heap.size S (natB n) ∧ ∀ k, S k → w.heap.size ≤ k) := by
        obtain ⟨_, S, hws, hfr, hsub⟩ := A1
        have h4 := B4.out.size
        refine ⟨B4.out.trans ((((Below.refl _ _).alloc (Nat.le_refl _) _).trans (hfr.below (fun k hk => by rw [hk]; exact Nat.le_refl _) (by simp))).mono h4), S, hws, fun k hk => ?_⟩
        rcases hsub k hk with h | h
        · rw [h]; exact h4
        · simp at h; omega
      clear A1
      obtain ⟨gw, hgw⟩ : ∃ gw, gw = u4.heap.size := ⟨_, rfl⟩
      rw [← hgw] at K1 ⊢
      clear hgw
      have W2 : Hid (Calls Try.prog 17 #[.pointer (some ⟨gw, 0, none⟩), .slice (some ⟨v1.heap.size, 0, none⟩) 1 1] (v1.alloc (.cells #[.int .i64 z] 2)) fun e w' => e = .returned (.tuple #[]) ∧ Hid (Below w.heap.size w w' ∧ ∃ S, WS w' gw S (natB n ++ natB (fz z)) ∧ ∀ k, S k → w.heap.size ≤ k)) := by
        obtain ⟨hb, S, hws, hS⟩ := K1.out
        refine (wInt1_c gw z S _ v1 hws Hzb.out (by have := Hle.out; have := HL.out; omega)).mono fun e w' h => ?_
        obtain ⟨he, _, S2, hws2, hfr, hsub⟩ := h
        refine ⟨he, hb.trans (hfr.below hS hb.size), S2, hws2, fun k hk => ?_⟩
        rcases hsub k hk with h | h
        · exact hS k h
        · have := hb.size; omega
      clear K1
      go_wp2_with fail
      ((with_reducible refine W2.out.mono ?_); rintro e v2 ⟨rfl, K2⟩)
      clear W2
      have W3 : Hid (Calls Try.prog 19 #[.pointer (some ⟨gw, 0, none⟩), .bool is] v2 fun e w' => e = .returned (.tuple #[]) ∧ Hid (Below w.heap.size w w' ∧ ∃ S, WS w' gw S (natB n ++ natB (fz z) ++ natB (if is then 1 else 0)) ∧ ∀ k, S k → w.heap.size ≤ k)) := by
        obtain ⟨hb, S, hws, hS⟩ := K2.out
        refine (wFlag_c gw is S _ v2 hws (by rw [List.length_append]; have := Hle.out; have := HL.out; omega)).mono fun e w' h => ?_
        obtain ⟨he, _, S2, hws2, hfr, hsub⟩ := h
        refine ⟨he, hb.trans (hfr.below hS hb.size), S2, hws2, fun k hk => ?_⟩
        rcases hsub k hk with h | h
        · exact hS k h
        · have := hb.size; omega
      clear K2
      go_wp2_with fail
      ((with_reducible refine W3.out.mono ?_); rintro e v3 ⟨rfl, K3⟩)
      clear W3
      have W4 : Hid (Calls Try.prog 21 #[.pointer (some ⟨gw, 0, none⟩), Str s] v3 fun e w' => e = .returned (.tuple #[]) ∧ Hid (Below w.heap.size w w' ∧ ∃ S, WS w' gw S l ∧ ∀ k, S k → w.heap.size ≤ k)) := by
        obtain ⟨hb, S, hws, hS⟩ := K3.out
        refine (wText_c gw ⟨s.toArray⟩ S _ v3 hws (by rw [List.length_append, List.length_append, str_size]; have := Hle.out; have := HL.out; omega)).mono fun e w' h => ?_
        obtain ⟨he, _, S2, hws2, hfr, hsub⟩ := h
        rw [str_size, show (⟨s.toArray⟩ : ByteArray).data.toList = s by simp, Heq.out] at hws2
        refine ⟨he, hb.trans (hfr.below hS hb.size), S2, hws2, fun k hk => ?_⟩
        rcases hsub k hk with h | h
        · exact hS k h
        · have := hb.size; omega
      clear K3
      go_wp2_with fail
      ((with_reducible refine W4.out.mono ?_); rintro e v4 ⟨rfl, K4⟩)
      clear W4
      have W5 : Hid (Calls Try.prog 23 #[.pointer (some ⟨gw, 0, none⟩)] v4.drew fun e w' => ∃ A c, e = .returned (.slice A l.length c) ∧ Hid (Below w.heap.size w w' ∧ SlB w' A l.length l ∧ SlB w' a0 len0 l)) := by
        obtain ⟨hb, S, hws, hS⟩ := K4.out
        have hwd : WS v4.drew gw S l := hws
        refine (Bytes_c gw S l v4.drew hwd (by have := HL.out; omega)).mono fun e w' h => ?_
        obtain ⟨A, c, he, ho, hbb⟩ := h
        have hB : Below w.heap.size w w' := hb.drew.trans (hbb.mono hb.size)
        refine ⟨A, c, he, hB, own_slb0 ho, HS.out.fr (S := fun _ => False) (Fr.of_below hB) (fun _ _ _ h => h)⟩
      have Bv4 : Hid (Below w.heap.size w v4) := K4.out.1
      have hcv0 : (convert 28 9 (.slice a0 len0 cap0)).run Try.prog v4.drew = .ok (Str l) v4.drew := conv_str (HS.out.fr (S := fun _ => False) (Fr.of_below K4.out.1.drew) (fun _ _ _ h => h))
      clear K4 B4
      go_wp2_with fail
      go_region_with (first | ((with_reducible refine W5.out.mono ?_); rintro e v5 ⟨A, c, rfl, K5⟩; have hcv1 := conv_str (c := c) K5.out.2.1; have hcv2 := conv_str (c := cap0) K5.out.2.2) | ((with_reducible refine (lives2_c _).mono ?_); rintro e v6 ⟨rfl, b6⟩))
      all_goals
        have B6 : Hid (Below w.heap.size w v6) := K5.out.1.trans (b6.mono K5.out.1.size)
        clear b6
        go_wp2_with fail
        go_ret
        exact ⟨rfl, B6.out⟩
    · have hne : (ee == 0) = false := by simp [hend]
      have hne2 : (ee != 0) = true := by simp [hend]
      clear hend
      go_enter Try.func6, Try.ntmps6
      go_wp2_with fail
      ((with_reducible refine HO.out.mono ?_); rintro e u0 ⟨rfl, rfl⟩)
      go_wp2_with fail
      ((with_reducible refine C1'.out.mono ?_); rintro e u1 ⟨rfl, T1, R1⟩)
      have B1 : Hid (Below w.heap.size w u1) := T1.of_alloc.below (Nat.le_refl _) (Nat.le_refl _)
      clear T1 C1' HO
      have D2 := Lib.hid (C2.out u1 R1); clear R1 C2
      go_wp2_with fail
      ((with_reducible refine D2.out.mono ?_); rintro e u2 ⟨rfl, T2, R2⟩)
      have B2 : Hid (Below w.heap.size w u2) := B1.out.trans (T2.below (Nat.le_refl _) B1.out.size)
      clear T2 B1 D2
      have D3 := Lib.hid (C3.out u2 R2); clear R2 C3
      go_wp2_with fail
      ((with_reducible refine D3.out.mono ?_); rintro e u3 ⟨rfl, T3, R3⟩)
      have B3 : Hid (Below w.heap.size w u3) := B2.out.trans (T3.below (Nat.le_refl _) B2.out.size)
      clear T3 B2 D3
      have D4 := Lib.hid (C4.out u3 R3); clear R3 C4
      go_wp2_with fail
      ((with_reducible refine D4.out.mono ?_); rintro e u4 ⟨rfl, T4, R4⟩)
      have B4 : Hid (Below w.heap.size w u4) := B3.out.trans (T4.below (Nat.le_refl _) B3.out.size)
      clear T4 B3 D4
      have D5 := Lib.hid (C5.out u4 R4); clear R4 C5
      go_wp2_with fail
      ((with_reducible refine D5.out.mono ?_); rintro e u5 ⟨rfl, rfl⟩)
      clear D5
      go_wp2_with fail
      ((with_reducible refine (lives2_c _).mono ?_); rintro e v6 ⟨rfl, b6⟩)
      have B6 : Hid (Below w.heap.size w v6) := B4.out.trans (b6.mono B4.out.size)
      clear b6 B4
      go_wp2_with fail
      go_ret
      exact ⟨rfl, B6.out⟩

/-! ### THE ROW's STEP: WRITTEN OUT: LEAVE IT -/
set_option maxRecDepth 100000 in
theorem lifted (os : Os) (started : os.Started) (H : Type) (enc : TypeId × Value → H) :
    ReturnsInHanded {} Try.checked os 6 .any (Rows.codecOnceSpec.pre6 enc Try.prog Try.f6 Rows.codecOnceRow.domain false) (Rows.codecOnceSpec.post enc Try.prog Try.f6 false true false false) := by
  refine returnsInHanded_of_change (C := Try.checked) own started (by kernel_rfl) Try.func6
    (ChangeSpec.witness6 (enc := enc) (C := Try.checked) false ⟨#[], #[.slice none 0 0], []⟩ 8 (by kernel_rfl) (by kernel_rfl) (by kernel_rfl) (by kernel_rfl)) ?_
  intro W base args ds gs before hval0 hW hcnd _
  have hval : ∀ (j : Nat) t v, Try.f6.params[j]? = some t → args[j]? = some v → Value.okWide Try.prog W .any base t v := hval0
  have hW' := hW
  obtain ⟨p, q, hA0, hV, rfl, hfz, hnd⟩ := hW
  have hA : DataW.TrodAll enc Try.prog W 0 (fun _ => true) true Try.f6.params.toList args.toList ds p := hA0
  rw [Try.params6] at hA hval
  obtain ⟨v0, vs0, d0, ds0, p0, q0, hargs, rfl, rfl, h0, r0⟩ := trodAll_cons hA
  obtain ⟨rfl, rfl, rfl⟩ := trodAll_nil r0
  obtain rfl : args = #[v0] := by cases args; simp_all
  obtain ⟨rfl, rfl⟩ := trodVars_none hV
  obtain ⟨a0, len0, cap0, rfl⟩ := okWide_slice Try.underlying28 (hval 0 28 v0 rfl rfl)
  have k0 := h0
  have lt0 : ∀ x ∈ p0, x.block < W.heap.size := by obtain ⟨m, hm⟩ := k0; exact DataW.trod_lt m _ _ _ hm
  obtain ⟨z0, w0⟩ : ∃ zs, IsRow .u8 W a0 len0 cap0 zs := by
    obtain ⟨fuel, hf⟩ := h0
    rcases open_ints Try.underlying28 Try.underlying5 (by kernel_rfl) hf with ⟨hcs, _⟩ | ⟨x, l, c, zs, hcs, _, hl, hm, hz, _, hcell, hwz⟩
    · simp [Value.cells] at hcs
      obtain ⟨rfl, rfl, rfl⟩ := hcs
      exact ⟨[], .inl ⟨rfl, rfl, rfl, rfl⟩⟩
    · simp [Value.cells] at hcs
      obtain ⟨rfl, rfl, rfl⟩ := hcs
      exact ⟨zs, .inr ⟨_, rfl, hl, hm, by simpa using hz, hcell, hwz⟩⟩
  clear hA0 hval0
  refine (walk a0 len0 cap0 z0 W w0).mono fun e W' ⟨he, bel⟩ => ?_
  subst he
  exact ⟨_, rfl, _, _, _, [], _, [], hW', trodAll_mk1 (shut_bool Try.underlying4 _), (trodAll_cons_mk (Below.trod laidOut (by kernel_rfl) (of_decide_eq_true (by kernel_rfl)) k0 bel lt0) trodAll_mk0), rfl, bel.frame _, fun h => by cases h⟩

theorem over : Rows.codecOnceRow.holds Try.pinned (OpenSpec.ofChange Rows.codecOnceSpec) :=
  OpenClaim.holds_of_wide 6 Try.f6 rfl rfl rfl rfl rfl rfl rfl ⟨rfl, rfl, rfl, rfl, rfl⟩ rfl rfl rfl rfl rfl (by kernel_rfl) Try.func6 (by kernel_rfl)
    (of_decide_eq_true (by kernel_rfl)) (by unfold Func.isWrapper; first | (rw [if_pos (by decide +kernel)]; kernel_rfl) | (rw [if_neg (by decide +kernel)]; exact ⟨rfl, rfl⟩))
    (fun os started H enc _ => lifted os started H enc)

/-- ████ THE STATEMENT ████ -/
theorem proved : Rows.CodecOnceSaid := over
end Go.Proofs.Ytoechhbdpkjppaa.codecOnce
