/-
  CoinSums: for every input the law returns true, and each argument reads behind the call as it read before. No condition.
  (The frame is the kit's shell of a proof, by program; the walk is mine.)
-/
import Derived.Test.YtceipiidhlekgaaRows
import Derived.WalkKit
import Derived.ProofKit
import Derived.OpenShut
import Derived.ShutString
import Derived.ChangeOld
import Derived.Below
import Derived.Test.YtceipiidhlekgaaCoinG
import Derived.Test.YtceipiidhlekgaaRefM
namespace Go.Proofs.Ytceipiidhlekgaa.coinSums
open Go.ChangeShapes Go.WideShapes Go.ChangeAt Go.RowKit
open Go.ChangeMaps (open_string shut_string)
set_option linter.unusedVariables false

theorem own : ownKnob Try.prog.godebug = none := by kernel_rfl
theorem laidOut : laidOutB Try.prog = true := by kernel_rfl

/-- WHAT THE WALK IS TOLD OF A SLICE OF INTEGERS THAT CAME IN: it is nil; or it leads to a row of 'cap' cells, the numbers 'zs' (the first 'len' are its elements, the rest its spare room), each fitting its kind. -/
def IsRow (k : IntKind) (w : World) (a : Option Addr) (len cap : Nat) (zs : List Int) : Prop :=
  (a = none ∧ len = 0 ∧ cap = 0 ∧ zs = []) ∨
  ∃ x, a = some x ∧ len ≤ cap ∧ cap ≤ maxLen ∧ zs.length = cap ∧ (∀ i, i < zs.length → w.cell? (x.add i) = some (.int k (zs.getD i 0))) ∧ ∀ n ∈ zs, (Lit.int k n).wf = true

/-! ### STEP 1: THE WALK: the Go text returns true, AND WRITES NOTHING THAT WAS THERE: 'Below w.heap.size w w'' (Derived/Below.lean: '.refl', '.alloc', '.drew', '.setCell' at a new block, '.trans'). Open each 'IsRow' by 'rcases' AHEAD of 'go_enter'; part every test ahead of the walk. -/
theorem walk (a0 : Option Addr) (len0 cap0 : Nat) (z0 : List Int) (a1 : Int) (a2 : Int) (a3 : Int) (a4 : Int) (w : World) (w0 : IsRow .i64 w a0 len0 cap0 z0) (w1 : (Lit.int .i64 a1).wf = true) (w2 : (Lit.int .i64 a2).wf = true) (w3 : (Lit.int .i64 a3).wf = true) (w4 : (Lit.int .i64 a4).wf = true) :
    Calls Try.prog 5 #[.slice a0 len0 cap0, .int .i64 a1, .int .i64 a2, .int .i64 a3, .int .i64 a4] w fun e w' => e = .returned (.bool true) ∧ Below w.heap.size w w' := by
  have h1 : Hid (InR a1) := bounds_i64 w1
  have h2 : Hid (InR a2) := bounds_i64 w2
  have h3 : Hid (InR a3) := bounds_i64 w3
  have h4 : Hid (InR a4) := bounds_i64 w4
  have key : ∃ len1 zs, SlI w a0 len1 zs ∧ len1 ≤ 200 ∧ ((len0 ≤ 200 ∧ len1 = len0) ∨ (200 < len0 ∧ len1 = 200 ∧ 200 ≤ cap0 ∧ ∃ b off, a0 = some ⟨b, off, none⟩)) := by
    rcases w0 with ⟨rfl, rfl, rfl, rfl⟩ | ⟨x, rfl, hl, hm, hz, hc, hwf⟩
    · exact ⟨0, [], ⟨rfl, by simp, Or.inl rfl⟩, by omega, Or.inl ⟨by omega, rfl⟩⟩
    · by_cases h0 : len0 = 0
      · subst h0
        exact ⟨0, [], ⟨rfl, by simp, Or.inl rfl⟩, by omega, Or.inl ⟨by omega, rfl⟩⟩
      · obtain ⟨b, off, rfl, hc'⟩ := ints_at hc (by omega)
        have sl : ∀ n, n ≤ len0 → SlI w (some ⟨b, off, none⟩) n (z0.take n) := fun n hn =>
          ⟨by simp; omega, fun m hm => bounds_i64 (hwf m (List.mem_of_mem_take hm)), Or.inr ⟨b, off, rfl, fun i hi => by
            rw [hc' i (by omega)]
            congr 2
            simp only [List.getD_eq_getElem?_getD, List.getElem?_take, if_pos hi]⟩⟩
        by_cases h2 : len0 ≤ 200
        · exact ⟨len0, _, sl len0 (by omega), h2, Or.inl ⟨h2, rfl⟩⟩
        · exact ⟨200, _, sl 200 (by omega), by omega, Or.inr ⟨by omega, rfl, by omega, b, off, rfl⟩⟩
  obtain ⟨len1, zs, hsl, hl1, hcase⟩ := key
  clear w0 w1 w2 w3 w4
  have Hsl := Lib.hid hsl; clear hsl
  obtain ⟨r, hr⟩ : ∃ r, r = if a1 < 0 ∨ a2 < 0 ∨ 4611686018427387904 < a1 ∨ 4611686018427387904 < a2 then 0 else if 4611686018427387904 < a1 + a2 then 4611686018427387904 else a1 + a2 := ⟨_, rfl⟩
  have Hr := Lib.hid hr; clear hr
  obtain ⟨lb, hlb⟩ : ∃ lb, lb = decide (a1 * a2 < a3 * a4) := ⟨_, rfl⟩
  have HL : Hid (∀ w, Calls Try.prog 24 #[.int .i64 a1, .int .i64 a2, .int .i64 a3, .int .i64 a4] w fun e w' => e = .returned (.bool lb) ∧ Below w.heap.size w w') := by
    intro w; rw [hlb]; exact Less_c a1 a2 a3 a4 h1.out h2.out h3.out h4.out w
  have HRL : Hid (∀ w, Calls Try.prog 25 #[.int .i64 a1, .int .i64 a2, .int .i64 a3, .int .i64 a4] w fun e w' => e = .returned (.bool lb) ∧ Below w.heap.size w w') := by
    intro w; rw [hlb]; exact refLess_c a1 a2 a3 a4 h1.out h2.out h3.out h4.out w
  clear hlb
  rcases hcase with ⟨hle, rfl⟩ | ⟨hgt, rfl, hcap, b, off, rfl⟩
  · have hI : ¬ (200 : Int) < (len1 : Int) := by omega
    go_enter Try.func5, Try.ntmps5
    go_wp2_with fail
    ((with_reducible refine (Sum_c a0 len1 cap0 zs _ Hsl.out (by omega)).mono ?_); rintro e u1 ⟨rfl, b1⟩)
    go_wp2_with fail
    ((with_reducible refine (refSum_c a0 len1 cap0 zs _ (Hsl.out.below b1) (by omega)).mono ?_); rintro e u2 ⟨rfl, b2⟩)
    go_wp2_with fail
    ((with_reducible refine (HL.out _).mono ?_); rintro e u3 ⟨rfl, b3⟩)
    go_wp2_with fail
    ((with_reducible refine (HRL.out _).mono ?_); rintro e u4 ⟨rfl, b4⟩)
    go_wp2_with fail
    ((with_reducible refine (Capped_c a1 a2 h1.out h2.out r Hr.out _).mono ?_); rintro e u5 ⟨rfl, rfl⟩)
    go_wp2_with fail
    ((with_reducible refine (refCapped_c a1 a2 h1.out h2.out r Hr.out _).mono ?_); rintro e u5 ⟨rfl, rfl⟩)
    go_wp2_with fail
    ((with_reducible refine (lives_c _).mono ?_); rintro e u5 ⟨rfl, b5⟩)
    have s1 := b1.size
    have s2 := b2.size
    have s3 := b3.size
    have s4 := b4.size
    have hB : Below w.heap.size w u5 := (((b1.trans (b2.mono (by omega))).trans (b3.mono (by omega))).trans (b4.mono (by omega))).trans (b5.mono (by omega))
    clear b1 b2 b3 b4 b5 s1 s2 s3 s4
    go_wp2_with fail
    go_ret
    first | exact ⟨rfl, hB⟩ | exact hB
  · have hI : (200 : Int) < (len0 : Int) := by omega
    have hcI : (200 : Int) ≤ (cap0 : Int) := by omega
    go_enter Try.func5, Try.ntmps5
    go_wp2_with fail
    ((with_reducible refine (Sum_c (some ⟨b, off, none⟩) 200 cap0 zs _ Hsl.out (by omega)).mono ?_); rintro e u1 ⟨rfl, b1⟩)
    go_wp2_with fail
    ((with_reducible refine (refSum_c (some ⟨b, off, none⟩) 200 cap0 zs _ (Hsl.out.below b1) (by omega)).mono ?_); rintro e u2 ⟨rfl, b2⟩)
    go_wp2_with fail
    ((with_reducible refine (HL.out _).mono ?_); rintro e u3 ⟨rfl, b3⟩)
    go_wp2_with fail
    ((with_reducible refine (HRL.out _).mono ?_); rintro e u4 ⟨rfl, b4⟩)
    go_wp2_with fail
    ((with_reducible refine (Capped_c a1 a2 h1.out h2.out r Hr.out _).mono ?_); rintro e u5 ⟨rfl, rfl⟩)
    go_wp2_with fail
    ((with_reducible refine (refCapped_c a1 a2 h1.out h2.out r Hr.out _).mono ?_); rintro e u5 ⟨rfl, rfl⟩)
    go_wp2_with fail
    ((with_reducible refine (lives_c _).mono ?_); rintro e u5 ⟨rfl, b5⟩)
    have s1 := b1.size
    have s2 := b2.size
    have s3 := b3.size
    have s4 := b4.size
    have hB : Below w.heap.size w u5 := (((b1.trans (b2.mono (by omega))).trans (b3.mono (by omega))).trans (b4.mono (by omega))).trans (b5.mono (by omega))
    clear b1 b2 b3 b4 b5 s1 s2 s3 s4
    go_wp2_with fail
    go_ret
    first | exact ⟨rfl, hB⟩ | exact hB

/-! ### THE ROW's STEP: WRITTEN OUT: LEAVE IT -/
set_option maxRecDepth 100000 in
theorem lifted (os : Os) (started : os.Started) (H : Type) (enc : TypeId × Value → H) :
    ReturnsInHanded {} Try.checked os 5 .any (Rows.coinSumsSpec.pre6 enc Try.prog Try.f5 Rows.coinSumsRow.domain false) (Rows.coinSumsSpec.post enc Try.prog Try.f5 false true false false) := by
  refine returnsInHanded_of_change (C := Try.checked) own started (by kernel_rfl) Try.func5
    (ChangeSpec.witness6 (enc := enc) (C := Try.checked) false ⟨#[], #[.slice none 0 0, .int .i64 0, .int .i64 0, .int .i64 0, .int .i64 0], []⟩ 8 (by kernel_rfl) (by kernel_rfl) (by kernel_rfl) (by kernel_rfl)) ?_
  intro W base args ds gs before hval0 hW hcnd _
  have hval : ∀ (j : Nat) t v, Try.f5.params[j]? = some t → args[j]? = some v → Value.okWide Try.prog W .any base t v := hval0
  have hW' := hW
  obtain ⟨p, q, hA0, hV, rfl, hfz, hnd⟩ := hW
  have hA : DataW.TrodAll enc Try.prog W 0 (fun _ => true) true Try.f5.params.toList args.toList ds p := hA0
  rw [Try.params5] at hA hval
  obtain ⟨v0, vs0, d0, ds0, p0, q0, hargs, rfl, rfl, h0, r0⟩ := trodAll_cons hA
  obtain ⟨v1, vs1, d1, ds1, p1, q1, rfl, rfl, rfl, h1, r1⟩ := trodAll_cons r0
  obtain ⟨v2, vs2, d2, ds2, p2, q2, rfl, rfl, rfl, h2, r2⟩ := trodAll_cons r1
  obtain ⟨v3, vs3, d3, ds3, p3, q3, rfl, rfl, rfl, h3, r3⟩ := trodAll_cons r2
  obtain ⟨v4, vs4, d4, ds4, p4, q4, rfl, rfl, rfl, h4, r4⟩ := trodAll_cons r3
  obtain ⟨rfl, rfl, rfl⟩ := trodAll_nil r4
  obtain rfl : args = #[v0, v1, v2, v3, v4] := by cases args; simp_all
  obtain ⟨rfl, rfl⟩ := trodVars_none hV
  obtain ⟨a0, len0, cap0, rfl⟩ := okWide_slice Try.underlying32 (hval 0 32 v0 rfl rfl)
  have k0 := h0
  have lt0 : ∀ x ∈ p0, x.block < W.heap.size := by obtain ⟨m, hm⟩ := k0; exact DataW.trod_lt m _ _ _ hm
  obtain ⟨z0, w0⟩ : ∃ zs, IsRow .i64 W a0 len0 cap0 zs := by
    obtain ⟨fuel, hf⟩ := h0
    rcases open_ints Try.underlying32 Try.underlying2 (by kernel_rfl) hf with ⟨hcs, _⟩ | ⟨x, l, c, zs, hcs, _, hl, hm, hz, _, hcell, hwz⟩
    · simp [Value.cells] at hcs
      obtain ⟨rfl, rfl, rfl⟩ := hcs
      exact ⟨[], .inl ⟨rfl, rfl, rfl, rfl⟩⟩
    · simp [Value.cells] at hcs
      obtain ⟨rfl, rfl, rfl⟩ := hcs
      exact ⟨zs, .inr ⟨_, rfl, hl, hm, by simpa using hz, hcell, hwz⟩⟩
  obtain ⟨a1, rfl, rfl, rfl, w1⟩ := open_int Try.underlying2 (hval 1 2 v1 rfl rfl) h1
  obtain ⟨a2, rfl, rfl, rfl, w2⟩ := open_int Try.underlying2 (hval 2 2 v2 rfl rfl) h2
  obtain ⟨a3, rfl, rfl, rfl, w3⟩ := open_int Try.underlying2 (hval 3 2 v3 rfl rfl) h3
  obtain ⟨a4, rfl, rfl, rfl, w4⟩ := open_int Try.underlying2 (hval 4 2 v4 rfl rfl) h4
  clear hA0 hval0
  refine (walk a0 len0 cap0 z0 a1 a2 a3 a4 W w0 w1 w2 w3 w4).mono fun e W' ⟨he, bel⟩ => ?_
  subst he
  exact ⟨_, rfl, _, _, _, [], _, [], hW', trodAll_mk1 (shut_bool Try.underlying4 _), (trodAll_cons_mk (Below.trod laidOut (by kernel_rfl) (of_decide_eq_true (by kernel_rfl)) k0 bel lt0) (trodAll_cons_mk (shut_int Try.underlying2 w1) (trodAll_cons_mk (shut_int Try.underlying2 w2) (trodAll_cons_mk (shut_int Try.underlying2 w3) (trodAll_cons_mk (shut_int Try.underlying2 w4) trodAll_mk0))))), rfl, bel.frame _, fun h => by cases h⟩

theorem over : Rows.coinSumsRow.holds Try.pinned (OpenSpec.ofChange Rows.coinSumsSpec) :=
  OpenClaim.holds_of_wide 5 Try.f5 rfl rfl rfl rfl rfl rfl rfl ⟨rfl, rfl, rfl, rfl, rfl⟩ rfl rfl rfl rfl rfl (by kernel_rfl) Try.func5 (by kernel_rfl)
    (of_decide_eq_true (by kernel_rfl)) (by unfold Func.isWrapper; first | (rw [if_pos (by decide +kernel)]; kernel_rfl) | (rw [if_neg (by decide +kernel)]; exact ⟨rfl, rfl⟩))
    (fun os started H enc _ => lifted os started H enc)

/-- ████ THE STATEMENT ████ -/
theorem proved : Rows.CoinSumsSaid := over
end Go.Proofs.Ytceipiidhlekgaa.coinSums
