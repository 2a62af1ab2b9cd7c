/- The law on rows of parcels, walked. -/
import Derived.Test.YtgbbckjbpgojaaaPdA
namespace Go.Proofs.Ytgbbckjbpgojaaa
open Go.RowKit Go.Shelf
set_option linter.unusedVariables false

attribute [local go_sem] Oper.semAt_some

theorem boxed_below {X Y : World} {c : Nat} {t : TypeId} {v : Value} (h : Boxed X c t v) (hb : Below X.heap.size X Y) : Boxed Y c t v := (hb.block c h.lt).trans h
theorem callsIn_w {n : Nat} {f : FuncId} {args : Array Value} {w : World} {R : Ending → World → Prop} (h : Calls Try.prog f args w R) : CallsIn Fence.wide n Try.prog f args w R := callsIn_wide.2 h

theorem boxed_not_put {X : World} {c k : Nat} {t : TypeId} {v : Value} {o : Obj} (h : Boxed X c t v) (hk : X.heap[k]? = some o) (ho : o.isCells = false) : c ≠ k := by
  intro e
  subst e
  rw [show X.heap[c]? = _ from h] at hk
  injection hk with hk
  rw [← hk] at ho
  cases ho
theorem keepS_set {D : Nat → Prop} (X : World) (c : Nat) (v : Value) (h : D c) : KeepS D X (X.setCell ⟨c, 0, none⟩ v) :=
  ⟨by simp [World.setCell], fun k cs T fz hk hc => (heap_far (a := ⟨c, 0, none⟩) (fun e => hk (by rw [e]; exact h))).trans hc⟩
theorem keepS_refl (D : Nat → Prop) (X : World) : KeepS D X X := ⟨Nat.le_refl _, fun _ _ _ _ _ h => h⟩
/-- Between two rounds of the law's loop. -/
def TL (w : World) (cb rb F Nn z5 : Nat) (A : Option Addr) (len cap : Nat) (pre : List Par) (X : World) : Prop :=
  Below w.heap.size w X ∧ Boxed X F 3 (.int .i64 (psum pre : Int)) ∧ Boxed X Nn 3 (.int .i64 (pre.length : Int)) ∧ Boxed X cb 22 (.slice A len cap) ∧ Boxed X rb 4 (.bool false) ∧ z5 ≤ X.heap.size ∧ psum pre ≤ len ∧ pre.length ≤ psum pre
theorem tl_own {w : World} {cb rb F Nn z5 B len cap : Nat} {A : Option Addr} (hB : w.heap.size ≤ B) : OwnFrom B (TL w cb rb F Nn z5 A len cap) := fun pre X Y row h hg hr => by
  obtain ⟨h1, h2, h3, h4, h5, h6, h7, h8⟩ := h
  have kb : ∀ {c : Nat} {t : TypeId} {v : Value}, Boxed X c t v → Boxed Y c t v := fun hb => hb.kept hg (fun e => by
    obtain ⟨_, o, ho, hc⟩ := hr _ e.symm
    exact boxed_not_put hb ho hc rfl)
  refine ⟨h1.trans ⟨hg.os, hg.tape, hg.output, hg.size, fun k hk => hg.block k (by have := h1.size; omega) (fun e => ?_)⟩, kb h2, kb h3, kb h4, kb h5, Nat.le_trans h6 hg.size, h7, h8⟩
  have := (hr k e.symm).1
  omega
/-- Behind the assignment. -/
def ML (w : World) (cb rb F Nn z5 E r m g : Nat) (A : Option Addr) (len cap : Nat) (l : List UInt8) (pre : List Par) (x : Par) (a' : Act) (X : World) : Prop :=
  TL w cb rb F Nn z5 A len cap pre X ∧ GX l pre x X ∧ a' = { tmps := #[.slice A len cap, .pointer (some ⟨cb, 0, none⟩), .pointer (some ⟨rb, 0, none⟩), .int .i64 (E : Int), .int .i64 (r : Int), .int .i64 (E : Int), .int .i64 (r : Int), .int .i64 (m : Int), .pointer (some ⟨F, 0, none⟩), .pointer (some ⟨Nn, 0, none⟩), .int .u8 (x.kd : Int), .slice x.A x.n x.c, undef, undef, undef, undef, .slice A len cap, .int .i64 (len : Int), .bool false, .bool false, .bool true, .bool false, .bool false, undef, .tuple #[.int .i64 (E : Int), .int .i64 (r : Int)], .slice A len cap, .tuple #[.int .i64 (E : Int), .int .i64 (r : Int)], .int .i64 (E : Int), .int .i64 (r : Int), .tuple #[.int .i64 (E : Int), .int .i64 (r : Int), .int .i64 (m : Int)], .slice A len cap, .tuple #[.int .i64 (E : Int), .int .i64 (r : Int), .int .i64 (m : Int)], .int .i64 (E : Int), .int .i64 (r : Int), .int .i64 (m : Int), .int .i64 (E : Int), .int .i64 (E : Int), .bool false, .bool false, .int .i64 (r : Int), .int .i64 (r : Int), .bool false, .bool false, .slice A len cap, .func (.func 15) #[] #[.pointer (some ⟨g, 0, none⟩)], .int .u8 (x.kd : Int), .slice x.A x.n x.c, undef, undef, undef, undef, undef, undef, undef, undef, undef, undef, undef, undef, undef, undef, undef, undef, undef, undef, undef, undef, undef, undef, undef, undef, undef, undef, undef, undef, undef, undef, undef, undef, undef, undef, undef, undef], defers := [] }
theorem gx_put {l : List UInt8} {pre : List Par} {x : Par} {X : World} {k : Nat} {o o' : Obj} (h : GX l pre x X) (hk : X.heap[k]? = some o) (ho : o.isCells = false) : GX l pre x (X.putObj k o') := by
  obtain ⟨h1, h2, h3, h4, h5, h6⟩ := h
  exact ⟨h1, h2, h3, slb_grown h4 (grownBy_putObj' X k o') (fun r e => by injection e with e; subst e; exact ⟨o, hk, ho⟩), h5, h6⟩

set_option maxRecDepth 100000 in
set_option maxHeartbeats 8000000 in
theorem rows_c (A : Option Addr) (len cap : Nat) (l : List UInt8) (w : World) (hS : SlB w A len l) (hlc : len ≤ cap) (hcap : cap ≤ maxLen) (hnil : A = none → cap = 0) (hA : ∀ a, A = some a → 0 < len → a.block < w.heap.size) :
    Calls Try.prog 3 #[.slice A len cap] w fun e w' => e = .returned (.bool true) ∧ Below w.heap.size w w' := by
  have mixed : Try.prog.follows .mixedOrders = true := by kernel_rfl
  have HL := Lib.hid lives3_c
  have hcI : (cap : Int) ≤ 9223372036854775807 := by unfold maxLen at hcap; omega
  refine (callsIn_wide (n := 8)).1 ?_
  refine callsIn_of_wp_marks Try.func3 rfl trivial ?_ rfl
  simp only [Try.ntmps3, List.size_toArray, List.length_cons, List.length_nil, Nat.reduceAdd, Nat.reduceSub, Array.replicate_succ, Array.replicate_zero, List.push_toArray, List.append_toArray, List.nil_append, List.cons_append]
  have c0 := cell_new_e w (.slice A len cap) 22
  have c1 := cell_new_e (w.alloc (.cells #[.slice A len cap] 22)) (.bool false) 4
  rw [World.size_alloc] at c1
  have c2 := cell_alloc_e (.cells #[.bool false] 4) c0.1
  have b0 : Boxed ((w.alloc (.cells #[.slice A len cap] 22)).alloc (.cells #[.bool false] 4)) w.heap.size 22 (.slice A len cap) := (Boxed.new w _ _).alloc _
  have r0 : Boxed ((w.alloc (.cells #[.slice A len cap] 22)).alloc (.cells #[.bool false] 4)) (w.heap.size + 1) 4 (.bool false) := by
    have := Boxed.new (w.alloc (.cells #[.slice A len cap] 22)) 4 (.bool false)
    rwa [World.size_alloc] at this
  have B0 : Below w.heap.size w ((w.alloc (.cells #[.slice A len cap] 22)).alloc (.cells #[.bool false] 4)) := ((Below.refl _ w).alloc (Nat.le_refl _) _).alloc (by simp) _
  by_cases h3 : 3000 < len
  · have hz : (3000 : Int) < (len : Int) := by omega
    gi_wp2_with fail
    refine ⟨trivial, ?_⟩
    gi_wp2_with fail
    refine ⟨trivial, ?_⟩
    refine (callsIn_w (HL.out _)).mono ?_
    rintro e w1 ⟨rfl, b1⟩
    have R1 := boxed_below r0 b1
    have BB := (B0.trans (b1.mono B0.size)).setCell (p := ⟨w.heap.size + 1, 0, none⟩) (show w.heap.size ≤ w.heap.size + 1 by omega) (.bool true)
    have f1 := R1.frozen
    have d1 := R1.cell
    gi_wp2_with fail
    refine ⟨.bool true, ?_, rfl, BB⟩
    have d2 : (w1.setCell ⟨w.heap.size + 1, 0, none⟩ (.bool true)).cell? ⟨w.heap.size + 1, 0, none⟩ = some (.bool true) := (R1.set (.bool true)).cell
    simp [results, Try.results3, go_sem, asAddr, d2]
  · have hz : ¬ (3000 : Int) < (len : Int) := by omega
    gi_wp2_with fail
    refine ⟨trivial, ?_⟩
    refine (callsIn_w (HL.out _)).mono ?_
    rintro e w1 ⟨rfl, b1⟩
    have R1 := boxed_below r0 b1
    have C1 := boxed_below b0 b1
    have BB := B0.trans (b1.mono B0.size)
    have d1 := C1.cell
    have z1 : w.heap.size + 2 ≤ w1.heap.size := by have := b1.size; simp at this; omega
    have hS1 := hS.below (BB : Below w.heap.size w w1)
    have HE := Lib.hid (end_c A len cap l w1 hS1 (by omega) hlc (by unfold maxLen at hcap; omega) (fun a ha hp => by have := hA a ha hp; have := BB.size; omega))
    gi_wp2_with fail
    refine ⟨trivial, ?_⟩
    refine (callsIn_w HE.out).mono ?_
    rintro e w2 ⟨rfl, b2⟩
    have B2 := b2.out
    have HQ := Lib.hid (rEnd_c A len cap l w2 (hS1.below B2) (by omega) hlc hcap)
    have C2 := boxed_below C1 B2
    have R2 := boxed_below R1 B2
    have BB2 := BB.trans (B2.mono BB.size)
    have z2 := Nat.le_trans z1 B2.size
    have d2 := C2.cell
    clear HE b2
    obtain ⟨E, hE⟩ : ∃ E, endN l = E := ⟨_, rfl⟩
    obtain ⟨r, hr⟩ : ∃ r, endEr l = r := ⟨_, rfl⟩
    obtain ⟨m, hm⟩ : ∃ m, (sizes l).length = m := ⟨_, rfl⟩
    rw [hE, hr, hm] at HQ
    rw [hE, hr]
    have hEE : ((E : Int) == (E : Int)) = true := by simp
    have hrr : ((r : Int) == (r : Int)) = true := by simp
    clear R1 C1 d1 c0 c1 c2 b0 r0 B0 BB
    gi_wp2_with fail
    refine ⟨trivial, ?_⟩
    refine (callsIn_w HQ.out).mono ?_
    rintro e w3 ⟨rfl, B3⟩
    have C3 := boxed_below C2 B3
    have R3 := boxed_below R2 B3
    have BB3 := BB2.trans (B3.mono BB2.size)
    have z3 := Nat.le_trans z2 B3.size
    have hS3 := hS.below BB3
    clear C2 R2 d2 BB2 B2 B3 HQ b1 hS1
    have hal : ∀ o1 o2, Below w3.heap.size w3 ((w3.alloc o1).alloc o2) := fun o1 o2 => ((Below.refl _ w3).alloc (Nat.le_refl _) _).alloc (by simp) _
    have d4 := (boxed_below C3 (hal (.cells #[.int .i64 0] 3) (.cells #[.int .i64 0] 3))).cell
    have HS4 := Lib.hid (hS3.below (hal (.cells #[.int .i64 0] 3) (.cells #[.int .i64 0] 3)))
    have HE := Lib.hid (eachOf_c A len cap l _ (by omega) hnil HS4.out)
    gi_wp2_with fail
    refine ⟨trivial, ?_⟩
    refine (callsIn_w HE.out).mono ?_
    rintro e w5 ⟨g, A5, c5, rfl, h5⟩
    have B5 := h5.out.2.2.1
    have C5 := boxed_below (boxed_below C3 (hal (.cells #[.int .i64 0] 3) (.cells #[.int .i64 0] 3))) B5
    have R5 := boxed_below (boxed_below R3 (hal (.cells #[.int .i64 0] 3) (.cells #[.int .i64 0] 3))) B5
    have F5 := boxed_below ((Boxed.new w3 3 (.int .i64 0)).alloc (.cells #[.int .i64 0] 3)) B5
    have N4 := Boxed.new (w3.alloc (.cells #[.int .i64 0] 3)) 3 (.int .i64 0)
    rw [World.size_alloc] at N4
    have N5 := boxed_below N4 B5
    have BB5 := BB3.trans (((hal (.cells #[.int .i64 0] 3) (.cells #[.int .i64 0] 3)).trans (B5.mono (by simp; omega))).mono BB3.size)
    have hz5 : w3.heap.size + 2 ≤ w5.heap.size := by have := B5.size; simpa using this
    have H5 := Lib.hid h5.out
    clear h5 HE HS4 N4 d4 hal hS3 C3 R3 BB3
    obtain ⟨F, hF⟩ : ∃ F, w3.heap.size = F := ⟨_, rfl⟩
    rw [hF] at F5 N5 hz5
    obtain ⟨cb, hcb⟩ : ∃ cb, w.heap.size = cb := ⟨_, rfl⟩
    have hFc : cb + 2 ≤ F := by rw [← hcb, ← hF]; exact z3
    clear z1 z2 z3
    gi_wp2_with fail
    have HSz := Lib.hid (fun (X : World) (h : Below w.heap.size w X) => hS.below h)
    have hT0 : TL w cb (cb + 1) F (F + 1) w5.heap.size A len cap [] w5 := ⟨BB5, by simpa [psum] using F5, N5, by rw [← hcb]; exact C5, by rw [← hcb]; exact R5, Nat.le_refl _, Nat.zero_le _, Nat.le_refl _⟩
    have hown := tl_own (w := w) (cb := cb) (rb := cb + 1) (F := F) (Nn := F + 1) (z5 := w5.heap.size) (B := w5.heap.size) (len := len) (cap := cap) (A := A) BB5.size
    obtain ⟨hgc, hS5, _, hc51, hc52, hg5, hA5⟩ := H5.out
    have hAD : ∀ a, A5 = some a → 0 < len → ¬ (a.block = F ∨ a.block = F + 1) := fun a ha hp => by
      by_cases h0 : len = 0
      · omega
      · rcases hS5.2 with h | ⟨b, off, hb, hbl, hcells⟩
        · exact absurd h h0
        · rw [ha] at hb
          injection hb with hb
          subst hb
          have hc0 := hcells 0 (by omega)
          rintro (e | e)
          · simp only at e
            subst e
            rw [World.cell?, show w5.heap[b]? = _ from F5] at hc0
            cases off <;> simp [byt] at hc0
          · simp only at e
            subst e
            rw [World.cell?, show w5.heap[F + 1]? = _ from N5] at hc0
            cases off <;> simp [byt] at hc0
    refine range_told rfl (by omega) (gf := 15) (lb := #[.pointer (some ⟨g, 0, none⟩)]) rfl trivial (enters_of Try.func15 (by kernel_rfl) rfl)
      (each_tells (8 - 1) (by omega) g (fun k => k = F ∨ k = F + 1) (w5.heap.size + 2) A5 len c5 l (by omega) hc51 (by unfold maxLen at hc52; omega) w5 (Nat.le_refl _) (fun k h => by rcases h with h | h <;> omega) hg5 hgc hS5 hAD) (Below.refl _ _) hown
      (M := ML w cb (cb + 1) F (F + 1) w5.heap.size E r m g A len cap l) ?rounds hT0 ?done
    case rounds =>
      refine ⟨fun x => rfl, fun pre X l o o' hT hl ho hcl => hown.putObj o' hT hl ho hcl, ?putM, ?putE, ?transE, ?assign, ?body⟩
      case putM =>
        rintro pre x a X l o o' ⟨hT, hG, rfl⟩ hl ho hcl
        exact ⟨hown.putObj o' hT hl ho hcl, gx_put hG ho hcl, rfl⟩
      case putE =>
        intro X o o' ho hcl
        exact ⟨keepS_put X _ o o' ho hcl, by simp [World.putObj], fun k o2 hk hk2 _ => (World.putObj_heap_other (by omega)).trans hk2⟩
      case transE => exact fun X Y Z h k => ⟨h.1.trans k.1, h.2.trans k.2⟩
      case assign =>
        rintro l0 pre ⟨k, A0, n0, c0, s0⟩ X K hT hG hK
        simp only [encB] at *
        gi_wp2
        exact hK _ _ (KeepsFrom.refl _ _) ⟨keepS_refl _ _, KeepsFrom.refl _ _⟩ ⟨hT, hG, rfl⟩
      case body =>
        rintro l0 pre ⟨k, A0, n0, c0, s0⟩ a X hl hlr ⟨hT, hG, rfl⟩
        obtain ⟨hB, hF1, hN1, hC1, hR1, hsz, hp1, hp2⟩ := hT
        obtain ⟨he, hs0, hk, hSb, hbn, hbc⟩ := hG
        simp only at hs0 hk hSb hbn hbc
        have hps := psum_snoc pre ⟨k, A0, n0, c0, s0⟩
        simp only at hps
        have hpl : (pre ++ [(⟨k, A0, n0, c0, s0⟩ : Par)]).length = pre.length + 1 := by simp
        obtain ⟨p, hp⟩ : ∃ p, psum pre = p := ⟨_, rfl⟩
        rw [hp] at hF1 hp1 hp2 he hs0 hk hSb hps
        have h5 := (parN_le (l.drop p)).2 he
        have hle := (parN_le (l.drop p)).1
        rw [List.length_drop] at hle
        have hll := hS.1
        have hSX := HSz.out X hB
        have hSd : SlB X (A.map (fun x => x.add p)) (len - p) (l.drop p) := hSX.drop p (by omega)
        have HT := Lib.hid (rTake_c _ (len - p) (cap - p) (l.drop p) X hSd (by omega) (by omega) (by omega))
        have hpI : (p : Int) ≤ (len : Int) := by omega
        have hp0 : 0 ≤ (p : Int) := by omega
        have hpc : ¬ cap = p := by omega
        have d1 := hC1.cell
        have d2 := hF1.cell
        have hkk : ((k : Int) == (k : Int)) = true := by simp
        have hw1 : IntKind.i64.wrap ((p : Int) + (s0 : Int)) = (p : Int) + (s0 : Int) := by rw [IntKind.wrap_i64]; omega
        have hw2 : IntKind.i64.wrap ((pre.length : Int) + 1) = (pre.length : Int) + 1 := by rw [IntKind.wrap_i64]; omega
        have HN0 : Hid (p + s0 ≤ len ∧ 5 ≤ s0) := ⟨by omega, by omega⟩
        clear hSX hSd hll hle
        gi_wp2_with fail
        refine ⟨trivial, ?_⟩
        refine (callsIn_w HT.out).mono ?_
        rintro e X6 ⟨A6, c6, rfl, h6⟩
        rw [he, ← hk, ← hs0, hSb.1]
        have b6 := h6.out.2.1
        have hv1 := conv_str (c := c6) h6.out.1
        rw [hSb.1] at hv1
        have hv2 := conv_str (c := c0) (hSb.below b6)
        generalize (parB (l.drop p)) = bd at hv1 hv2
        have F6 := boxed_below hF1 b6
        have N6 := boxed_below hN1 b6
        have C6 := boxed_below hC1 b6
        have R6 := boxed_below hR1 b6
        have B6 := hB.trans (b6.mono hB.size)
        have d3 := F6.cell
        have f3 := F6.frozen
        have N7 := N6.other (show F + 1 ≠ F by omega) (.int .i64 ((p : Int) + (s0 : Int)))
        have d4 := N7.cell
        have f4 := N7.frozen
        have z6 := b6.size
        clear HT h6 hF1 hN1 hC1 hR1 hB hSb h5 hs0 hk he d1 d2 hS5 hgc
        gi_wp2_with fail
        have F8 : Boxed ((X6.setCell ⟨F, 0, none⟩ (.int .i64 ((p : Int) + (s0 : Int)))).setCell ⟨F + 1, 0, none⟩ (.int .i64 ((pre.length : Int) + 1))) F 3 (.int .i64 ((p : Int) + (s0 : Int))) := (F6.set _).other (by omega) _
        have N8 : Boxed ((X6.setCell ⟨F, 0, none⟩ (.int .i64 ((p : Int) + (s0 : Int)))).setCell ⟨F + 1, 0, none⟩ (.int .i64 ((pre.length : Int) + 1))) (F + 1) 3 (.int .i64 ((pre.length : Int) + 1)) := N7.set _
        have q1 : ((p + s0 : Nat) : Int) = (p : Int) + (s0 : Int) := by omega
        have q2 : ((pre.length + 1 : Nat) : Int) = (pre.length : Int) + 1 := by omega
        refine ⟨?_, ?_, ?_, ?_, ?_, ?_, ?_, ?_, ?_, ?_⟩
        · exact (keepsFrom_below b6).trans (((KeepsOthers.setCell _ _ _).trans (KeepsOthers.setCell _ _ _)).from _)
        · exact ⟨((keepS_below b6).trans (keepS_set _ F _ (.inl rfl))).trans (keepS_set _ (F + 1) _ (.inr rfl)), (keepsFrom_below b6).trans (((KeepsOthers.setCell _ _ _).trans (KeepsOthers.setCell _ _ _)).from _)⟩
        · exact (B6.setCell (p := ⟨F, 0, none⟩) (show w.heap.size ≤ F by omega) _).setCell (p := ⟨F + 1, 0, none⟩) (show w.heap.size ≤ F + 1 by omega) _
        · rw [hps, q1]; exact F8
        · rw [hpl, q2]; exact N8
        · exact (C6.other (by omega) _).other (by omega) _
        · exact (R6.other (by omega) _).other (by omega) _
        · have e : ((X6.setCell ⟨F, 0, none⟩ (.int .i64 ((p : Int) + (s0 : Int)))).setCell ⟨F + 1, 0, none⟩ (.int .i64 ((pre.length : Int) + 1))).heap.size = X6.heap.size := by simp [World.setCell]
          rw [e]
          omega
        · rw [hps]; exact HN0.out.1
        · rw [hps, hpl]; have := HN0.out.2; omega
    case done =>
      rintro ys Y hys ⟨hB, hF1, hN1, hC1, hR1, hsz, _, _⟩ hK
      have e1 : psum ys = E := by unfold psum; rw [hys]; exact hE
      have e2 : ys.length = m := by rw [← hm, ← hys, List.length_map]
      rw [e1] at hF1
      rw [e2] at hN1
      have d1 := hF1.cell
      have d2 := hN1.cell
      have d3 := hR1.cell
      have f3 := hR1.frozen
      have hmm : ((m : Int) == (m : Int)) = true := by simp
      have hK2 : (Y.setCell ⟨cb + 1, 0, none⟩ (.bool true)).heap[w5.heap.size]? = some (.deferred (some [])) := (heap_far (a := ⟨cb + 1, 0, none⟩) (by simp only; omega)).trans hK
      have R9 := hR1.set (.bool true)
      have B9 := hB.setCell (p := ⟨cb + 1, 0, none⟩) (show w.heap.size ≤ cb + 1 by omega) (.bool true)
      clear H5 hgc hS5 hown hT0 hys e1 e2
      gi_wp2_with fail
      all_goals
        refine ⟨by simp, .inl ⟨_, _, rfl, run_takeDeferred hK2, ?_⟩⟩
        have d9 : ((Y.setCell ⟨cb + 1, 0, none⟩ (.bool true)).putObj w5.heap.size (.deferred none)).cell? ⟨cb + 1, 0, none⟩ = some (.bool true) := Boxed.cell (t := 4) ((World.putObj_heap_other (by omega)).trans R9)
        refine ⟨.bool true, ?_, rfl, B9.trans (belowK_b (w := w) (Nat.le_refl _) _ _ _ _ (by omega) hK2 rfl rfl)⟩
        simp [results, Try.results3, go_sem, asAddr, d9]
end Go.Proofs.Ytgbbckjbpgojaaa
