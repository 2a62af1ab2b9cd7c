/- parcel.Each: its iterator, by its word: kinds, and copies of the bodies. -/
import Derived.Test.YtgbbckjbpgojaaaPcV
import Derived.Test.YtgbbckjbpgojaaaRgU
import Derived.Test.YtgbbckjbpgojaaaPcY
namespace Go.Proofs.Ytgbbckjbpgojaaa
open Go.RowKit Go.Shelf
set_option linter.unusedVariables false

attribute [local go_sem] Oper.semAt_some

/-- The part of a parcel that is handed out, and its size. -/
def encB (x : Par) : Array Value := #[.int .u8 (x.kd : Int), .slice x.A x.n x.c]
/-- What comes, where it comes. -/
def GX (l : List UInt8) (pre : List Par) (x : Par) (X : World) : Prop :=
  (firstF (l.drop (psum pre))).er = 0 ∧ x.sz = parN (l.drop (psum pre)) ∧ x.kd = (firstF (l.drop (psum pre))).kd ∧ SlB X x.A x.n (parB (l.drop (psum pre))) ∧ x.n ≤ x.c ∧ x.c ≤ maxLen
/-- What a round keeps. -/
def KeepC (D : Nat → Prop) (C : Nat) (X Y : World) : Prop := KeepS D X Y ∧ KeepsFrom C X Y
theorem keepsFrom_more {B B' : Nat} {X Y : World} (h : KeepsFrom B X Y) (hb : B ≤ B') : KeepsFrom B' X Y := ⟨h.size, fun k o hk => h.same k o (Nat.le_trans hb hk)⟩
theorem keepS_below {D : Nat → Prop} {X Y : World} (h : Below X.heap.size X Y) : KeepS D X Y := ⟨h.size, fun k cs T fz _ hk => (h.block k (blk_lt hk)).trans hk⟩
theorem keepsFrom_below {B : Nat} {X Y : World} (h : Below X.heap.size X Y) : KeepsFrom B X Y := ⟨h.size, fun k o _ hk _ => (h.block k (blk_lt hk)).trans hk⟩
theorem keepS_put {D : Nat → Prop} (X : World) (l : Nat) (o o' : Obj) (hl : X.heap[l]? = some o) (ho : o.isCells = false) : KeepS D X (X.putObj l o') := by
  refine ⟨by simp [World.putObj], fun k cs T fz _ hc => ?_⟩
  by_cases h : k = l
  · subst h
    rw [hl] at hc
    injection hc with hc
    rw [hc] at ho
    cases ho
  · exact (World.putObj_heap_other h).trans hc
theorem round_wide {n n' : Nat} {P : Program} {l : Nat} {f : FuncId} {tmps : Array Value} {assign body : Code} {w : World} {R : Ending → World → Prop} (h : RoundIn Fence.wide n P l f tmps assign body w R) : RoundIn Fence.wide n' P l f tmps assign body w R :=
  ⟨h.1, fun c cs _ => h.2 c cs (fun d hd => by cases hd)⟩
theorem slb_grown {X Y : World} {A : Option Addr} {n : Nat} {l : List UInt8} {row : Option Nat} (h : SlB X A n l) (hg : X.grownBy Y row) (hr : ∀ r, row = some r → ∃ o : Obj, X.heap[r]? = some o ∧ o.isCells = false) : SlB Y A n l := by
  refine ⟨h.1, ?_⟩
  rcases h.2 with h0 | ⟨b, off, hA, hb, hc⟩
  · exact .inl h0
  · exact .inr ⟨b, off, hA, Nat.lt_of_lt_of_le hb hg.size, fun i hi => cell_kept (hc i hi) hg hr⟩
theorem parB_len {l : List UInt8} (h : (firstF l).er = 0) : (parB l).length = (firstF l).tz - (firstF l).fr ∧ (firstF l).fr + ((firstF l).tz - (firstF l).fr) ≤ l.length ∧ (firstF l).tz - (firstF l).fr ≤ 65536 := by
  obtain ⟨x, y, hF, hle, hx, hy, hk⟩ := firstF_ok h
  unfold parB
  rw [hF]
  simp only
  rw [Nat.add_sub_cancel_left, List.length_take, List.length_drop]
  omega
/-- The bytes of a body, where the parcels lie. -/
theorem slb_body {X : World} {b off len : Nat} {l : List UInt8} (h : SlB X (some ⟨b, off, none⟩) len l) (p : Nat) (hp : p ≤ len) (he : (firstF (l.drop p)).er = 0) :
    SlB X (some ⟨b, off + p + (firstF (l.drop p)).fr, none⟩) ((firstF (l.drop p)).tz - (firstF (l.drop p)).fr) (parB (l.drop p)) := by
  obtain ⟨h1, h2, _⟩ := parB_len he
  have hl := h.1
  rw [List.length_drop] at h2
  have h3 := ((h.drop p hp).drop (firstF (l.drop p)).fr (by omega)).upTo ((firstF (l.drop p)).tz - (firstF (l.drop p)).fr) (by omega)
  simp only [Option.map_some, addr_add] at h3
  exact h3
/-- Between two rounds of the loop within. -/
def TEw (ll : Nat) (J : List Par → World → Prop) (W : World) (yb : Nat) (A : Option Addr) (len : Nat) (l : List UInt8) (pre : List Par) (X : World) : Prop :=
  (∃ pre' : List Par, pre'.map (·.sz) = pre.map (·.sz) ∧ J pre' X) ∧ X.cell? ⟨yb, 0, none⟩ = some (.func (.yield ll) #[] #[]) ∧ SlB X A len l ∧ W.heap.size ≤ X.heap.size
theorem tew_own {ll : Nat} {J : List Par → World → Prop} {W : World} {yb : Nat} {A : Option Addr} {len : Nat} {l : List UInt8} {B : Nat} (hJ : OwnFrom W.heap.size J) (hB : W.heap.size ≤ B) : OwnFrom B (TEw ll J W yb A len l) := fun pre X Y row h hg hr => by
  obtain ⟨⟨pre', h1, h2⟩, h3, h4, h5⟩ := h
  refine ⟨⟨pre', h1, hJ pre' X Y row h2 hg (fun r e => ?_)⟩, cell_kept h3 hg (fun r e => (hr r e).2), slb_grown h4 hg (fun r e => (hr r e).2), Nat.le_trans h5 hg.size⟩
  obtain ⟨h6, h7⟩ := hr r e
  exact ⟨Nat.le_trans hB h6, h7⟩
/-- Behind the assignment: the parcel in its box. -/
def MEw (ll : Nat) (J : List Par → World → Prop) (W : World) (yb Bs gb : Nat) (D : Nat → Prop) (A : Option Addr) (len cap : Nat) (l : List UInt8) (pre : List Par) (x : Par) (a' : Act) (X : World) : Prop :=
  TEw ll J W yb A len l pre X ∧ PX A cap l pre x ∧ ∃ Bx, ¬ D Bx ∧ B3 45 X Bx (.int .u8 (x.kd : Int)) (.slice x.A x.n x.c) (.int .i64 (x.sz : Int)) ∧
    a' = { tmps := #[.func (.yield ll) #[] #[], .pointer (some ⟨Bs, 0, none⟩), .pointer (some ⟨yb, 0, none⟩), .pointer (some ⟨Bx, 0, none⟩), .slice A len cap, .func (.func 24) #[] #[.pointer (some ⟨gb, 0, none⟩)], x.val, undef, undef, undef, undef, undef, undef, undef, undef], defers := [] }

def noDefer (ops : Array Oper) : Bool := ops.all fun o => match o.op with | .defer _ => false | _ => true
theorem noDefer_spec {ops : Array Oper} (h : noDefer ops = true) : ∀ (i : Nat) (o : Oper), ops[i]? = some o → ∀ c, o.op ≠ .defer c := by
  intro i o ho c hc
  obtain ⟨hi, e⟩ := Array.getElem?_eq_some_iff.1 ho
  have := (Array.all_eq_true.1 h) i hi
  rw [e, hc] at this
  cases this
theorem cell_below {X Y : World} {b o : Nat} {v : Value} (h : X.cell? ⟨b, o, none⟩ = some v) (hb : Below X.heap.size X Y) : Y.cell? ⟨b, o, none⟩ = some v := (hb.cell (p := ⟨b, o, none⟩) (World.block_lt_of_cell? X _ h)).trans h

set_option maxRecDepth 100000 in
set_option maxHeartbeats 8000000 in
theorem each_tells (n : Nat) (hn : 3 ≤ n) (Bs : Nat) (D : Nat → Prop) (C : Nat) (A : Option Addr) (len cap : Nat) (l : List UInt8) (hlen : len ≤ 1000000) (hlc : len ≤ cap) (hcap : cap ≤ 9223372036854775807) (w : World) (hC : C ≤ w.heap.size + 2)
    (hD : ∀ k, D k → k < w.heap.size) (hBs : Bs < w.heap.size) (hc : w.cell? ⟨Bs, 0, none⟩ = some (.slice A len cap)) (hS : SlB w A len l) (hA : ∀ a, A = some a → 0 < len → ¬ D a.block) :
    Tells Fence.wide n Try.prog 15 #[.pointer (some ⟨Bs, 0, none⟩)] encB (GX l) (KeepC D C) (fun ys => ys.map (·.sz) = sizes l) w := by
  have mixed : Try.prog.follows .mixedOrders = true := by kernel_rfl
  intro ll J W hW hW2 hJ hY h0
  have hD' : ∀ k, D k → k < W.heap.size := fun k h => Nat.lt_of_lt_of_le (hD k h) hW.size
  have hc' := (hW.cell (p := ⟨Bs, 0, none⟩) hBs).trans hc
  have hS' := hS.below hW
  have hC' := Nat.le_trans hC hW2
  clear hW hW2 hc hS hC hD hBs
  refine callsIn_of_wp_marks Try.func15 rfl trivial ?_ rfl
  simp only [Try.ntmps15, List.size_toArray, List.length_cons, List.length_nil, Nat.reduceAdd, Nat.reduceSub, Array.replicate_succ, Array.replicate_zero, List.push_toArray, List.append_toArray, List.nil_append, List.cons_append]
  have hc2 := cell_alloc_e (.cells #[.func (.yield ll) #[] #[]] 49) hc'
  gi_wp2_with (refine ⟨trivial, fun _ => by omega, ?_⟩; refine (allOf_in (n - 1) _ _ _ _).mono ?_; rintro e w' ⟨rfl, rfl⟩)
  obtain ⟨yb, hyb⟩ : ∃ yb, W.heap.size = yb := ⟨_, rfl⟩
  have hz1 : (W.alloc (.cells #[.func (.yield ll) #[] #[]] 49)).heap.size = yb + 1 := by rw [World.size_alloc, hyb]
  have hb2 : Below W.heap.size W ((W.alloc (.cells #[.func (.yield ll) #[] #[]] 49)).alloc (.cells #[.slice A len cap] 22)) := ((Below.refl _ W).alloc (Nat.le_refl _) _).alloc (by simp) _
  have hy2 : ((W.alloc (.cells #[.func (.yield ll) #[] #[]] 49)).alloc (.cells #[.slice A len cap] 22)).cell? ⟨yb, 0, none⟩ = some (.func (.yield ll) #[] #[]) := by
    rw [← hyb]
    exact cell_alloc_e _ (cell_new_e W _ _).1
  have hg2 : ((W.alloc (.cells #[.func (.yield ll) #[] #[]] 49)).alloc (.cells #[.slice A len cap] 22)).cell? ⟨yb + 1, 0, none⟩ = some (.slice A len cap) := by
    have := (cell_new_e (W.alloc (.cells #[.func (.yield ll) #[] #[]] 49)) (.slice A len cap) 22).1
    rwa [hz1] at this
  have hz2 : ((W.alloc (.cells #[.func (.yield ll) #[] #[]] 49)).alloc (.cells #[.slice A len cap] 22)).heap.size = yb + 2 := by rw [World.size_alloc, hz1]
  rw [hyb]
  generalize ((W.alloc (.cells #[.func (.yield ll) #[] #[]] 49)).alloc (.cells #[.slice A len cap] 22)) = W2 at hb2 hy2 hg2 hz2 ⊢
  have hT0 : TEw ll J W yb A len l [] W2 := ⟨⟨[], rfl, hJ _ _ _ none h0 ⟨hb2.os, hb2.tape, hb2.output, hb2.size, fun k hk _ => hb2.block k hk⟩ (fun r e => by cases e)⟩, hy2, hS'.below hb2, hb2.size⟩
  have hown := tew_own (ll := ll) (yb := yb) (A := A) (len := len) (l := l) hJ hb2.size
  refine range_told rfl (by omega) (gf := 24) (lb := #[.pointer (some ⟨yb + 1, 0, none⟩)]) rfl trivial (enters_of Try.func24 (by kernel_rfl) rfl)
    (all_tells (n - 1) (by omega) (yb + 1) D A len cap l hlen hlc hcap W2 (fun k h => by have := hD' k h; omega) (by omega) hg2 (hS'.below hb2) hA) (Below.refl _ _) hown
    (M := MEw ll J W yb Bs (yb + 1) D A len cap l) ?rounds hT0 ?done
  case rounds =>
    refine ⟨fun x => rfl, fun pre X l o o' hT hl ho hcl => hown.putObj o' hT hl ho hcl, ?putM, fun X o o' ho hcl => keepS_put X _ o o' ho hcl, fun X Y Z h k => h.trans k, ?assign, ?body⟩
    case putM =>
      rintro pre x a X l o o' ⟨hT, hP, Bx, hBx, hB, rfl⟩ hl ho hcl
      refine ⟨hown.putObj o' hT hl ho hcl, hP, Bx, hBx, ?_, rfl⟩
      refine (World.putObj_heap_other (fun e => ?_)).trans hB
      subst e
      rw [show X.heap[Bx]? = _ from hB] at ho
      injection ho with ho
      rw [← ho] at hcl
      cases hcl
    case assign =>
      rintro l0 pre ⟨k, A0, n0, c0, s0⟩ X K hT hP hK
      simp only [Par.val] at *
      gi_wp2
      exact hK _ _ ((KeepsOthers.alloc _ _).from _) (keepS_below ((Below.refl _ _).alloc (Nat.le_refl _) _)) ⟨hown.alloc _ hT, hP, X.heap.size, fun h => by have := hD' _ h; have := hT.2.2.2; omega, heap_alloc_new X _, rfl⟩
    case body =>
      rintro l0 pre ⟨k, A0, n0, c0, s0⟩ a X hl hlr ⟨hT, hP, Bx, hBx, hB, rfl⟩
      obtain ⟨⟨pre', hm, hJ1⟩, hy, hSX, hsz⟩ := hT
      obtain ⟨he, b, off, hA0, hx⟩ := hP
      have hpp : psum pre' = psum pre := by unfold psum; rw [hm]
      unfold parOf at hx
      rw [if_pos he] at hx
      injection hx with e1 e2 e3 e4 e5
      simp only [Option.map_some, addr_add] at e2
      have hle : psum pre ≤ len := by
        have h1 := (parB_len he).2.1
        obtain ⟨x, y, hF, hle, _⟩ := firstF_ok he
        rw [List.length_drop] at hle
        have := hSX.1
        omega
      have hbody := slb_body (by rw [hA0] at hSX; exact hSX) (psum pre) hle he
      rw [← e2, ← e3] at hbody
      have hn0 : n0 ≤ 65536 := by rw [e3]; exact (parB_len he).2.2
      have HG : Hid (∀ (A5 : Option Addr) (c5 : Nat) (Y : World), SlB Y A5 n0 (parB (l.drop (psum pre))) → n0 ≤ c5 → c5 ≤ maxLen → GX l pre' ⟨k, A5, n0, c5, s0⟩ Y) := Lib.hid (fun A5 c5 Y h1 h2 h3 => by
        unfold GX
        rw [hpp]
        exact ⟨he, by show s0 = _; unfold parN; rw [if_pos he, e5], by show k = _; rw [e1], h1, h2, h3⟩)
      have HM : Hid (∀ (A5 : Option Addr) (c5 : Nat) (A6 : Option Addr), (pre' ++ [(⟨k, A5, n0, c5, s0⟩ : Par)]).map (fun x : Par => x.sz) = (pre ++ [(⟨k, A6, n0, c0, s0⟩ : Par)]).map (fun x : Par => x.sz)) := Lib.hid (fun A5 c5 A6 => by rw [List.map_append, List.map_append, hm]; rfl)
      have hA0' := e2
      clear e1 e3 e4 e5 hpp hle he hm
      rw [hA0'] at hbody hB ⊢
      have HC := Lib.hid (clone_c _ _ n0 c0 _ X.drew (by omega) (show SlB X.drew _ n0 _ from hbody))
      have HJg : Hid (∀ Y, Below X.heap.size X Y → J pre' Y) := Lib.hid (fun Y h => hJ _ _ _ none hJ1 ⟨h.os, h.tape, h.output, h.size, fun i hi _ => h.block i hi⟩ (fun r e => by cases e))
      have B0 : Hid (Below X.heap.size X X.drew) := Lib.hid (Below.refl _ _).drew
      obtain ⟨p0, p1, p2⟩ : X.drew.cell? ⟨Bx, 0, none⟩ = _ ∧ X.drew.cell? ⟨Bx, 1, none⟩ = _ ∧ X.drew.cell? ⟨Bx, 2, none⟩ = _ := hB.three
      have y0 : X.drew.cell? ⟨yb, 0, none⟩ = some (.func (.yield ll) #[] #[]) := hy
      have hSl : Hid (SlB X A len l) := hSX
      have hcl : Hid (C ≤ W2.heap.size) := Lib.hid (Nat.le_trans hC' hb2.size)
      have hszX : Hid (W.heap.size ≤ X.heap.size) := hsz
      have HY := Lib.hid hY
      have hA2 : Hid (∀ a, A = some a → 0 < len → ¬ D a.block) := hA
      have HB : Hid (B3 45 X Bx (.int .u8 (k : Int)) (.slice A0 n0 c0) (.int .i64 (s0 : Int))) := Lib.hid (by rw [hA0']; exact hB)
      clear hB hy hSX hsz hJ1 hbody hY hA hA0
      generalize (parB (l.drop (psum pre))) = bd at HG HC
      generalize (off + psum pre + (firstF (l.drop (psum pre))).fr) = o0 at *
      gi_wp2
      refine wpIn_region_any mixed ?_
      refine wpAnyIn_round (noDefer_spec (by kernel_rfl)) _ _ _ _ _ ?_
      (try (change wpAnyIn _ _ _ _ _ _ _ _ _ (World.drew _)))
      generalize World.drew X = Xd at HC B0 p0 p1 p2 y0 ⊢
      refine wpAnyIn_take (i := 1) (oi := ⟨some 8, _, _, _, _, _⟩) (v := ?_) rfl rfl (by kernel_rfl) (by kernel_rfl) (by kernel_rfl) (fun _ _ _ h => h) ⟨Or.inl ⟨by kernel_rfl, ?_⟩, fun _ => rfl⟩ ?_
      rotate_left
      · (intro w0; go_simp; try with_reducible rfl)
      (repeat (first | simp only [Act.put] | simp only [List.setIfInBounds_toArray] | simp only [List.set_cons_succ] | simp only [List.set_cons_zero]))
      refine wpAnyIn_take (i := 3) (oi := ⟨some 10, _, _, _, _, _⟩) (v := ?_) rfl rfl (by kernel_rfl) (by kernel_rfl) (by kernel_rfl) (fun _ _ _ h => h) ⟨Or.inl ⟨by kernel_rfl, ?_⟩, fun _ => rfl⟩ ?_
      rotate_left
      · (intro w0; go_simp; try with_reducible rfl)
      (repeat (first | simp only [Act.put] | simp only [List.setIfInBounds_toArray] | simp only [List.set_cons_succ] | simp only [List.set_cons_zero]))
      refine wpAnyIn_ready (rs := [0, 2, 4]) (by kernel_rfl) (by simp) ?_
      refine AllReadyIn.cons (o := ⟨some 7, _, _, _, _, _⟩) rfl (fun K hK => ?_) ?_
      · go_simp
        (try refine ⟨trivial, ?_⟩)
        refine hK _ _ ?_
        clear hK K
        (repeat (first | simp only [Act.put] | simp only [List.setIfInBounds_toArray] | simp only [List.set_cons_succ] | simp only [List.set_cons_zero]))
        refine wpAnyIn_ready (rs := [2, 4]) (by kernel_rfl) (by simp) ?_
        refine AllReadyIn.cons (o := ⟨some 9, _, _, _, _, _⟩) rfl (fun K hK => ?_) ?_
        · go_simp
          (try refine ⟨trivial, ?_⟩)
          refine hK _ _ ?_
          clear hK K
          (repeat (first | simp only [Act.put] | simp only [List.setIfInBounds_toArray] | simp only [List.set_cons_succ] | simp only [List.set_cons_zero]))
          refine wpAnyIn_ready (rs := [4]) (by kernel_rfl) (by simp) ?_
          refine AllReadyIn.cons (o := ⟨some 11, _, _, _, _, _⟩) rfl (fun K hK => ?_) AllReadyIn.nil
          go_simp
          (try refine ⟨trivial, ?_⟩)
          refine hK _ _ ?_
          clear hK K
          (repeat (first | simp only [Act.put] | simp only [List.setIfInBounds_toArray] | simp only [List.set_cons_succ] | simp only [List.set_cons_zero]))
          refine wpAnyIn_ready (rs := [5]) (by kernel_rfl) (by simp) ?_
          refine AllReadyIn.cons (o := ⟨some 12, _, _, _, _, _⟩) rfl (fun K hK => ?_) AllReadyIn.nil
          go_simp
          (refine ⟨trivial, fun _ => by omega, ?_⟩)
          refine (callsIn_wide.2 HC.out).mono ?_
          rintro e X5 ⟨A5, c5, rfl, h5⟩
          have B5 : Hid (Below X.heap.size X X5) := Lib.hid (B0.out.trans (h5.out.2.1.mono B0.out.size))
          have S5 : Hid (SlB X5 A5 n0 bd ∧ n0 ≤ c5 ∧ c5 ≤ maxLen) := ⟨h5.out.1, h5.out.2.2.1, h5.out.2.2.2⟩
          replace p0 := cell_below p0 h5.out.2.1
          replace y0 := cell_below y0 h5.out.2.1
          clear h5
          refine hK _ _ ?_
          clear hK K
          (repeat (first | simp only [Act.put] | simp only [List.setIfInBounds_toArray] | simp only [List.set_cons_succ] | simp only [List.set_cons_zero]))
          obtain ⟨fn, tmps, assign, body, hyl, hR⟩ := HY.out pre' ⟨k, A5, n0, c5, s0⟩ X5 (HJg.out _ B5.out) (HG.out _ _ _ S5.out.1 S5.out.2.1 S5.out.2.2)
          dsimp only [encB] at hyl
          refine wpAnyIn_ready (rs := [6]) (by kernel_rfl) (by simp) ?_
          refine AllReadyIn.cons (o := ⟨some 13, _, _, _, _, _⟩) rfl (fun K hK => ?_) AllReadyIn.nil
          go_simp
          (refine ⟨fun _ => by omega, ?_⟩)
          refine (round_wide hR).mono ?_
          rintro e Y ⟨rfl, hJ6, hk6, hf6⟩
          refine hK _ _ ?_
          clear hK K
          (repeat (first | simp only [Act.put] | simp only [List.setIfInBounds_toArray] | simp only [List.set_cons_succ] | simp only [List.set_cons_zero]))
          refine wpAnyIn_take (i := 7) (oi := ⟨some 14, _, _, _, _, _⟩) (v := ?_) rfl rfl (by kernel_rfl) (by kernel_rfl) (by kernel_rfl) (fun _ _ _ h => h) ⟨Or.inl ⟨by kernel_rfl, ?_⟩, fun _ => rfl⟩ ?_
          rotate_left
          · (intro w0; go_simp; try with_reducible rfl)
          (repeat (first | simp only [Act.put] | simp only [List.setIfInBounds_toArray] | simp only [List.set_cons_succ] | simp only [List.set_cons_zero]))
          refine wpAnyIn_done (by kernel_rfl) ?_ _
          gi_wp2_with fail
          refine ⟨?_, ?_, ⟨pre' ++ [⟨k, A5, n0, c5, s0⟩], HM.out _ _ _, hJ6⟩, ?_, ?_, ?_⟩
          · exact (keepsFrom_below B5.out).trans (keepsFrom_more hf6 (by have := hcl.out; omega))
          · exact (keepS_below B5.out).trans hk6
          · exact hk6.cell (fun h => by have := hD' _ h; omega) y0
          · exact (hSl.out.below B5.out).keepS hk6 hA2.out
          · show W.heap.size ≤ Y.heap.size
            have := hszX.out; have := B5.out.size; have := hk6.1; omega
        refine AllReadyIn.cons (o := ⟨some 11, _, _, _, _, _⟩) rfl (fun K hK => ?_) AllReadyIn.nil
        go_simp
        (try refine ⟨trivial, ?_⟩)
        refine hK _ _ ?_
        clear hK K
        (repeat (first | simp only [Act.put] | simp only [List.setIfInBounds_toArray] | simp only [List.set_cons_succ] | simp only [List.set_cons_zero]))
        refine wpAnyIn_ready (rs := [2, 5]) (by kernel_rfl) (by simp) ?_
        refine AllReadyIn.cons (o := ⟨some 9, _, _, _, _, _⟩) rfl (fun K hK => ?_) ?_
        · go_simp
          (try refine ⟨trivial, ?_⟩)
          refine hK _ _ ?_
          clear hK K
          (repeat (first | simp only [Act.put] | simp only [List.setIfInBounds_toArray] | simp only [List.set_cons_succ] | simp only [List.set_cons_zero]))
          refine wpAnyIn_ready (rs := [5]) (by kernel_rfl) (by simp) ?_
          refine AllReadyIn.cons (o := ⟨some 12, _, _, _, _, _⟩) rfl (fun K hK => ?_) AllReadyIn.nil
          go_simp
          (refine ⟨trivial, fun _ => by omega, ?_⟩)
          refine (callsIn_wide.2 HC.out).mono ?_
          rintro e X5 ⟨A5, c5, rfl, h5⟩
          have B5 : Hid (Below X.heap.size X X5) := Lib.hid (B0.out.trans (h5.out.2.1.mono B0.out.size))
          have S5 : Hid (SlB X5 A5 n0 bd ∧ n0 ≤ c5 ∧ c5 ≤ maxLen) := ⟨h5.out.1, h5.out.2.2.1, h5.out.2.2.2⟩
          replace p0 := cell_below p0 h5.out.2.1
          replace y0 := cell_below y0 h5.out.2.1
          clear h5
          refine hK _ _ ?_
          clear hK K
          (repeat (first | simp only [Act.put] | simp only [List.setIfInBounds_toArray] | simp only [List.set_cons_succ] | simp only [List.set_cons_zero]))
          obtain ⟨fn, tmps, assign, body, hyl, hR⟩ := HY.out pre' ⟨k, A5, n0, c5, s0⟩ X5 (HJg.out _ B5.out) (HG.out _ _ _ S5.out.1 S5.out.2.1 S5.out.2.2)
          dsimp only [encB] at hyl
          refine wpAnyIn_ready (rs := [6]) (by kernel_rfl) (by simp) ?_
          refine AllReadyIn.cons (o := ⟨some 13, _, _, _, _, _⟩) rfl (fun K hK => ?_) AllReadyIn.nil
          go_simp
          (refine ⟨fun _ => by omega, ?_⟩)
          refine (round_wide hR).mono ?_
          rintro e Y ⟨rfl, hJ6, hk6, hf6⟩
          refine hK _ _ ?_
          clear hK K
          (repeat (first | simp only [Act.put] | simp only [List.setIfInBounds_toArray] | simp only [List.set_cons_succ] | simp only [List.set_cons_zero]))
          refine wpAnyIn_take (i := 7) (oi := ⟨some 14, _, _, _, _, _⟩) (v := ?_) rfl rfl (by kernel_rfl) (by kernel_rfl) (by kernel_rfl) (fun _ _ _ h => h) ⟨Or.inl ⟨by kernel_rfl, ?_⟩, fun _ => rfl⟩ ?_
          rotate_left
          · (intro w0; go_simp; try with_reducible rfl)
          (repeat (first | simp only [Act.put] | simp only [List.setIfInBounds_toArray] | simp only [List.set_cons_succ] | simp only [List.set_cons_zero]))
          refine wpAnyIn_done (by kernel_rfl) ?_ _
          gi_wp2_with fail
          refine ⟨?_, ?_, ⟨pre' ++ [⟨k, A5, n0, c5, s0⟩], HM.out _ _ _, hJ6⟩, ?_, ?_, ?_⟩
          · exact (keepsFrom_below B5.out).trans (keepsFrom_more hf6 (by have := hcl.out; omega))
          · exact (keepS_below B5.out).trans hk6
          · exact hk6.cell (fun h => by have := hD' _ h; omega) y0
          · exact (hSl.out.below B5.out).keepS hk6 hA2.out
          · show W.heap.size ≤ Y.heap.size
            have := hszX.out; have := B5.out.size; have := hk6.1; omega
        refine AllReadyIn.cons (o := ⟨some 12, _, _, _, _, _⟩) rfl (fun K hK => ?_) AllReadyIn.nil
        go_simp
        (refine ⟨trivial, fun _ => by omega, ?_⟩)
        refine (callsIn_wide.2 HC.out).mono ?_
        rintro e X5 ⟨A5, c5, rfl, h5⟩
        have B5 : Hid (Below X.heap.size X X5) := Lib.hid (B0.out.trans (h5.out.2.1.mono B0.out.size))
        have S5 : Hid (SlB X5 A5 n0 bd ∧ n0 ≤ c5 ∧ c5 ≤ maxLen) := ⟨h5.out.1, h5.out.2.2.1, h5.out.2.2.2⟩
        replace p0 := cell_below p0 h5.out.2.1
        replace y0 := cell_below y0 h5.out.2.1
        clear h5
        refine hK _ _ ?_
        clear hK K
        (repeat (first | simp only [Act.put] | simp only [List.setIfInBounds_toArray] | simp only [List.set_cons_succ] | simp only [List.set_cons_zero]))
        refine wpAnyIn_ready (rs := [2]) (by kernel_rfl) (by simp) ?_
        refine AllReadyIn.cons (o := ⟨some 9, _, _, _, _, _⟩) rfl (fun K hK => ?_) AllReadyIn.nil
        go_simp
        (try refine ⟨trivial, ?_⟩)
        refine hK _ _ ?_
        clear hK K
        (repeat (first | simp only [Act.put] | simp only [List.setIfInBounds_toArray] | simp only [List.set_cons_succ] | simp only [List.set_cons_zero]))
        obtain ⟨fn, tmps, assign, body, hyl, hR⟩ := HY.out pre' ⟨k, A5, n0, c5, s0⟩ X5 (HJg.out _ B5.out) (HG.out _ _ _ S5.out.1 S5.out.2.1 S5.out.2.2)
        dsimp only [encB] at hyl
        refine wpAnyIn_ready (rs := [6]) (by kernel_rfl) (by simp) ?_
        refine AllReadyIn.cons (o := ⟨some 13, _, _, _, _, _⟩) rfl (fun K hK => ?_) AllReadyIn.nil
        go_simp
        (refine ⟨fun _ => by omega, ?_⟩)
        refine (round_wide hR).mono ?_
        rintro e Y ⟨rfl, hJ6, hk6, hf6⟩
        refine hK _ _ ?_
        clear hK K
        (repeat (first | simp only [Act.put] | simp only [List.setIfInBounds_toArray] | simp only [List.set_cons_succ] | simp only [List.set_cons_zero]))
        refine wpAnyIn_take (i := 7) (oi := ⟨some 14, _, _, _, _, _⟩) (v := ?_) rfl rfl (by kernel_rfl) (by kernel_rfl) (by kernel_rfl) (fun _ _ _ h => h) ⟨Or.inl ⟨by kernel_rfl, ?_⟩, fun _ => rfl⟩ ?_
        rotate_left
        · (intro w0; go_simp; try with_reducible rfl)
        (repeat (first | simp only [Act.put] | simp only [List.setIfInBounds_toArray] | simp only [List.set_cons_succ] | simp only [List.set_cons_zero]))
        refine wpAnyIn_done (by kernel_rfl) ?_ _
        gi_wp2_with fail
        refine ⟨?_, ?_, ⟨pre' ++ [⟨k, A5, n0, c5, s0⟩], HM.out _ _ _, hJ6⟩, ?_, ?_, ?_⟩
        · exact (keepsFrom_below B5.out).trans (keepsFrom_more hf6 (by have := hcl.out; omega))
        · exact (keepS_below B5.out).trans hk6
        · exact hk6.cell (fun h => by have := hD' _ h; omega) y0
        · exact (hSl.out.below B5.out).keepS hk6 hA2.out
        · show W.heap.size ≤ Y.heap.size
          have := hszX.out; have := B5.out.size; have := hk6.1; omega
      refine AllReadyIn.cons (o := ⟨some 9, _, _, _, _, _⟩) rfl (fun K hK => ?_) ?_
      · go_simp
        (try refine ⟨trivial, ?_⟩)
        refine hK _ _ ?_
        clear hK K
        (repeat (first | simp only [Act.put] | simp only [List.setIfInBounds_toArray] | simp only [List.set_cons_succ] | simp only [List.set_cons_zero]))
        refine wpAnyIn_ready (rs := [0, 4]) (by kernel_rfl) (by simp) ?_
        refine AllReadyIn.cons (o := ⟨some 7, _, _, _, _, _⟩) rfl (fun K hK => ?_) ?_
        · go_simp
          (try refine ⟨trivial, ?_⟩)
          refine hK _ _ ?_
          clear hK K
          (repeat (first | simp only [Act.put] | simp only [List.setIfInBounds_toArray] | simp only [List.set_cons_succ] | simp only [List.set_cons_zero]))
          refine wpAnyIn_ready (rs := [4]) (by kernel_rfl) (by simp) ?_
          refine AllReadyIn.cons (o := ⟨some 11, _, _, _, _, _⟩) rfl (fun K hK => ?_) AllReadyIn.nil
          go_simp
          (try refine ⟨trivial, ?_⟩)
          refine hK _ _ ?_
          clear hK K
          (repeat (first | simp only [Act.put] | simp only [List.setIfInBounds_toArray] | simp only [List.set_cons_succ] | simp only [List.set_cons_zero]))
          refine wpAnyIn_ready (rs := [5]) (by kernel_rfl) (by simp) ?_
          refine AllReadyIn.cons (o := ⟨some 12, _, _, _, _, _⟩) rfl (fun K hK => ?_) AllReadyIn.nil
          go_simp
          (refine ⟨trivial, fun _ => by omega, ?_⟩)
          refine (callsIn_wide.2 HC.out).mono ?_
          rintro e X5 ⟨A5, c5, rfl, h5⟩
          have B5 : Hid (Below X.heap.size X X5) := Lib.hid (B0.out.trans (h5.out.2.1.mono B0.out.size))
          have S5 : Hid (SlB X5 A5 n0 bd ∧ n0 ≤ c5 ∧ c5 ≤ maxLen) := ⟨h5.out.1, h5.out.2.2.1, h5.out.2.2.2⟩
          replace p0 := cell_below p0 h5.out.2.1
          replace y0 := cell_below y0 h5.out.2.1
          clear h5
          refine hK _ _ ?_
          clear hK K
          (repeat (first | simp only [Act.put] | simp only [List.setIfInBounds_toArray] | simp only [List.set_cons_succ] | simp only [List.set_cons_zero]))
          obtain ⟨fn, tmps, assign, body, hyl, hR⟩ := HY.out pre' ⟨k, A5, n0, c5, s0⟩ X5 (HJg.out _ B5.out) (HG.out _ _ _ S5.out.1 S5.out.2.1 S5.out.2.2)
          dsimp only [encB] at hyl
          refine wpAnyIn_ready (rs := [6]) (by kernel_rfl) (by simp) ?_
          refine AllReadyIn.cons (o := ⟨some 13, _, _, _, _, _⟩) rfl (fun K hK => ?_) AllReadyIn.nil
          go_simp
          (refine ⟨fun _ => by omega, ?_⟩)
          refine (round_wide hR).mono ?_
          rintro e Y ⟨rfl, hJ6, hk6, hf6⟩
          refine hK _ _ ?_
          clear hK K
          (repeat (first | simp only [Act.put] | simp only [List.setIfInBounds_toArray] | simp only [List.set_cons_succ] | simp only [List.set_cons_zero]))
          refine wpAnyIn_take (i := 7) (oi := ⟨some 14, _, _, _, _, _⟩) (v := ?_) rfl rfl (by kernel_rfl) (by kernel_rfl) (by kernel_rfl) (fun _ _ _ h => h) ⟨Or.inl ⟨by kernel_rfl, ?_⟩, fun _ => rfl⟩ ?_
          rotate_left
          · (intro w0; go_simp; try with_reducible rfl)
          (repeat (first | simp only [Act.put] | simp only [List.setIfInBounds_toArray] | simp only [List.set_cons_succ] | simp only [List.set_cons_zero]))
          refine wpAnyIn_done (by kernel_rfl) ?_ _
          gi_wp2_with fail
          refine ⟨?_, ?_, ⟨pre' ++ [⟨k, A5, n0, c5, s0⟩], HM.out _ _ _, hJ6⟩, ?_, ?_, ?_⟩
          · exact (keepsFrom_below B5.out).trans (keepsFrom_more hf6 (by have := hcl.out; omega))
          · exact (keepS_below B5.out).trans hk6
          · exact hk6.cell (fun h => by have := hD' _ h; omega) y0
          · exact (hSl.out.below B5.out).keepS hk6 hA2.out
          · show W.heap.size ≤ Y.heap.size
            have := hszX.out; have := B5.out.size; have := hk6.1; omega
        refine AllReadyIn.cons (o := ⟨some 11, _, _, _, _, _⟩) rfl (fun K hK => ?_) AllReadyIn.nil
        go_simp
        (try refine ⟨trivial, ?_⟩)
        refine hK _ _ ?_
        clear hK K
        (repeat (first | simp only [Act.put] | simp only [List.setIfInBounds_toArray] | simp only [List.set_cons_succ] | simp only [List.set_cons_zero]))
        refine wpAnyIn_ready (rs := [0, 5]) (by kernel_rfl) (by simp) ?_
        refine AllReadyIn.cons (o := ⟨some 7, _, _, _, _, _⟩) rfl (fun K hK => ?_) ?_
        · go_simp
          (try refine ⟨trivial, ?_⟩)
          refine hK _ _ ?_
          clear hK K
          (repeat (first | simp only [Act.put] | simp only [List.setIfInBounds_toArray] | simp only [List.set_cons_succ] | simp only [List.set_cons_zero]))
          refine wpAnyIn_ready (rs := [5]) (by kernel_rfl) (by simp) ?_
          refine AllReadyIn.cons (o := ⟨some 12, _, _, _, _, _⟩) rfl (fun K hK => ?_) AllReadyIn.nil
          go_simp
          (refine ⟨trivial, fun _ => by omega, ?_⟩)
          refine (callsIn_wide.2 HC.out).mono ?_
          rintro e X5 ⟨A5, c5, rfl, h5⟩
          have B5 : Hid (Below X.heap.size X X5) := Lib.hid (B0.out.trans (h5.out.2.1.mono B0.out.size))
          have S5 : Hid (SlB X5 A5 n0 bd ∧ n0 ≤ c5 ∧ c5 ≤ maxLen) := ⟨h5.out.1, h5.out.2.2.1, h5.out.2.2.2⟩
          replace p0 := cell_below p0 h5.out.2.1
          replace y0 := cell_below y0 h5.out.2.1
          clear h5
          refine hK _ _ ?_
          clear hK K
          (repeat (first | simp only [Act.put] | simp only [List.setIfInBounds_toArray] | simp only [List.set_cons_succ] | simp only [List.set_cons_zero]))
          obtain ⟨fn, tmps, assign, body, hyl, hR⟩ := HY.out pre' ⟨k, A5, n0, c5, s0⟩ X5 (HJg.out _ B5.out) (HG.out _ _ _ S5.out.1 S5.out.2.1 S5.out.2.2)
          dsimp only [encB] at hyl
          refine wpAnyIn_ready (rs := [6]) (by kernel_rfl) (by simp) ?_
          refine AllReadyIn.cons (o := ⟨some 13, _, _, _, _, _⟩) rfl (fun K hK => ?_) AllReadyIn.nil
          go_simp
          (refine ⟨fun _ => by omega, ?_⟩)
          refine (round_wide hR).mono ?_
          rintro e Y ⟨rfl, hJ6, hk6, hf6⟩
          refine hK _ _ ?_
          clear hK K
          (repeat (first | simp only [Act.put] | simp only [List.setIfInBounds_toArray] | simp only [List.set_cons_succ] | simp only [List.set_cons_zero]))
          refine wpAnyIn_take (i := 7) (oi := ⟨some 14, _, _, _, _, _⟩) (v := ?_) rfl rfl (by kernel_rfl) (by kernel_rfl) (by kernel_rfl) (fun _ _ _ h => h) ⟨Or.inl ⟨by kernel_rfl, ?_⟩, fun _ => rfl⟩ ?_
          rotate_left
          · (intro w0; go_simp; try with_reducible rfl)
          (repeat (first | simp only [Act.put] | simp only [List.setIfInBounds_toArray] | simp only [List.set_cons_succ] | simp only [List.set_cons_zero]))
          refine wpAnyIn_done (by kernel_rfl) ?_ _
          gi_wp2_with fail
          refine ⟨?_, ?_, ⟨pre' ++ [⟨k, A5, n0, c5, s0⟩], HM.out _ _ _, hJ6⟩, ?_, ?_, ?_⟩
          · exact (keepsFrom_below B5.out).trans (keepsFrom_more hf6 (by have := hcl.out; omega))
          · exact (keepS_below B5.out).trans hk6
          · exact hk6.cell (fun h => by have := hD' _ h; omega) y0
          · exact (hSl.out.below B5.out).keepS hk6 hA2.out
          · show W.heap.size ≤ Y.heap.size
            have := hszX.out; have := B5.out.size; have := hk6.1; omega
        refine AllReadyIn.cons (o := ⟨some 12, _, _, _, _, _⟩) rfl (fun K hK => ?_) AllReadyIn.nil
        go_simp
        (refine ⟨trivial, fun _ => by omega, ?_⟩)
        refine (callsIn_wide.2 HC.out).mono ?_
        rintro e X5 ⟨A5, c5, rfl, h5⟩
        have B5 : Hid (Below X.heap.size X X5) := Lib.hid (B0.out.trans (h5.out.2.1.mono B0.out.size))
        have S5 : Hid (SlB X5 A5 n0 bd ∧ n0 ≤ c5 ∧ c5 ≤ maxLen) := ⟨h5.out.1, h5.out.2.2.1, h5.out.2.2.2⟩
        replace p0 := cell_below p0 h5.out.2.1
        replace y0 := cell_below y0 h5.out.2.1
        clear h5
        refine hK _ _ ?_
        clear hK K
        (repeat (first | simp only [Act.put] | simp only [List.setIfInBounds_toArray] | simp only [List.set_cons_succ] | simp only [List.set_cons_zero]))
        refine wpAnyIn_ready (rs := [0]) (by kernel_rfl) (by simp) ?_
        refine AllReadyIn.cons (o := ⟨some 7, _, _, _, _, _⟩) rfl (fun K hK => ?_) AllReadyIn.nil
        go_simp
        (try refine ⟨trivial, ?_⟩)
        refine hK _ _ ?_
        clear hK K
        (repeat (first | simp only [Act.put] | simp only [List.setIfInBounds_toArray] | simp only [List.set_cons_succ] | simp only [List.set_cons_zero]))
        obtain ⟨fn, tmps, assign, body, hyl, hR⟩ := HY.out pre' ⟨k, A5, n0, c5, s0⟩ X5 (HJg.out _ B5.out) (HG.out _ _ _ S5.out.1 S5.out.2.1 S5.out.2.2)
        dsimp only [encB] at hyl
        refine wpAnyIn_ready (rs := [6]) (by kernel_rfl) (by simp) ?_
        refine AllReadyIn.cons (o := ⟨some 13, _, _, _, _, _⟩) rfl (fun K hK => ?_) AllReadyIn.nil
        go_simp
        (refine ⟨fun _ => by omega, ?_⟩)
        refine (round_wide hR).mono ?_
        rintro e Y ⟨rfl, hJ6, hk6, hf6⟩
        refine hK _ _ ?_
        clear hK K
        (repeat (first | simp only [Act.put] | simp only [List.setIfInBounds_toArray] | simp only [List.set_cons_succ] | simp only [List.set_cons_zero]))
        refine wpAnyIn_take (i := 7) (oi := ⟨some 14, _, _, _, _, _⟩) (v := ?_) rfl rfl (by kernel_rfl) (by kernel_rfl) (by kernel_rfl) (fun _ _ _ h => h) ⟨Or.inl ⟨by kernel_rfl, ?_⟩, fun _ => rfl⟩ ?_
        rotate_left
        · (intro w0; go_simp; try with_reducible rfl)
        (repeat (first | simp only [Act.put] | simp only [List.setIfInBounds_toArray] | simp only [List.set_cons_succ] | simp only [List.set_cons_zero]))
        refine wpAnyIn_done (by kernel_rfl) ?_ _
        gi_wp2_with fail
        refine ⟨?_, ?_, ⟨pre' ++ [⟨k, A5, n0, c5, s0⟩], HM.out _ _ _, hJ6⟩, ?_, ?_, ?_⟩
        · exact (keepsFrom_below B5.out).trans (keepsFrom_more hf6 (by have := hcl.out; omega))
        · exact (keepS_below B5.out).trans hk6
        · exact hk6.cell (fun h => by have := hD' _ h; omega) y0
        · exact (hSl.out.below B5.out).keepS hk6 hA2.out
        · show W.heap.size ≤ Y.heap.size
          have := hszX.out; have := B5.out.size; have := hk6.1; omega
      refine AllReadyIn.cons (o := ⟨some 11, _, _, _, _, _⟩) rfl (fun K hK => ?_) AllReadyIn.nil
      go_simp
      (try refine ⟨trivial, ?_⟩)
      refine hK _ _ ?_
      clear hK K
      (repeat (first | simp only [Act.put] | simp only [List.setIfInBounds_toArray] | simp only [List.set_cons_succ] | simp only [List.set_cons_zero]))
      refine wpAnyIn_ready (rs := [0, 2, 5]) (by kernel_rfl) (by simp) ?_
      refine AllReadyIn.cons (o := ⟨some 7, _, _, _, _, _⟩) rfl (fun K hK => ?_) ?_
      · go_simp
        (try refine ⟨trivial, ?_⟩)
        refine hK _ _ ?_
        clear hK K
        (repeat (first | simp only [Act.put] | simp only [List.setIfInBounds_toArray] | simp only [List.set_cons_succ] | simp only [List.set_cons_zero]))
        refine wpAnyIn_ready (rs := [2, 5]) (by kernel_rfl) (by simp) ?_
        refine AllReadyIn.cons (o := ⟨some 9, _, _, _, _, _⟩) rfl (fun K hK => ?_) ?_
        · go_simp
          (try refine ⟨trivial, ?_⟩)
          refine hK _ _ ?_
          clear hK K
          (repeat (first | simp only [Act.put] | simp only [List.setIfInBounds_toArray] | simp only [List.set_cons_succ] | simp only [List.set_cons_zero]))
          refine wpAnyIn_ready (rs := [5]) (by kernel_rfl) (by simp) ?_
          refine AllReadyIn.cons (o := ⟨some 12, _, _, _, _, _⟩) rfl (fun K hK => ?_) AllReadyIn.nil
          go_simp
          (refine ⟨trivial, fun _ => by omega, ?_⟩)
          refine (callsIn_wide.2 HC.out).mono ?_
          rintro e X5 ⟨A5, c5, rfl, h5⟩
          have B5 : Hid (Below X.heap.size X X5) := Lib.hid (B0.out.trans (h5.out.2.1.mono B0.out.size))
          have S5 : Hid (SlB X5 A5 n0 bd ∧ n0 ≤ c5 ∧ c5 ≤ maxLen) := ⟨h5.out.1, h5.out.2.2.1, h5.out.2.2.2⟩
          replace p0 := cell_below p0 h5.out.2.1
          replace y0 := cell_below y0 h5.out.2.1
          clear h5
          refine hK _ _ ?_
          clear hK K
          (repeat (first | simp only [Act.put] | simp only [List.setIfInBounds_toArray] | simp only [List.set_cons_succ] | simp only [List.set_cons_zero]))
          obtain ⟨fn, tmps, assign, body, hyl, hR⟩ := HY.out pre' ⟨k, A5, n0, c5, s0⟩ X5 (HJg.out _ B5.out) (HG.out _ _ _ S5.out.1 S5.out.2.1 S5.out.2.2)
          dsimp only [encB] at hyl
          refine wpAnyIn_ready (rs := [6]) (by kernel_rfl) (by simp) ?_
          refine AllReadyIn.cons (o := ⟨some 13, _, _, _, _, _⟩) rfl (fun K hK => ?_) AllReadyIn.nil
          go_simp
          (refine ⟨fun _ => by omega, ?_⟩)
          refine (round_wide hR).mono ?_
          rintro e Y ⟨rfl, hJ6, hk6, hf6⟩
          refine hK _ _ ?_
          clear hK K
          (repeat (first | simp only [Act.put] | simp only [List.setIfInBounds_toArray] | simp only [List.set_cons_succ] | simp only [List.set_cons_zero]))
          refine wpAnyIn_take (i := 7) (oi := ⟨some 14, _, _, _, _, _⟩) (v := ?_) rfl rfl (by kernel_rfl) (by kernel_rfl) (by kernel_rfl) (fun _ _ _ h => h) ⟨Or.inl ⟨by kernel_rfl, ?_⟩, fun _ => rfl⟩ ?_
          rotate_left
          · (intro w0; go_simp; try with_reducible rfl)
          (repeat (first | simp only [Act.put] | simp only [List.setIfInBounds_toArray] | simp only [List.set_cons_succ] | simp only [List.set_cons_zero]))
          refine wpAnyIn_done (by kernel_rfl) ?_ _
          gi_wp2_with fail
          refine ⟨?_, ?_, ⟨pre' ++ [⟨k, A5, n0, c5, s0⟩], HM.out _ _ _, hJ6⟩, ?_, ?_, ?_⟩
          · exact (keepsFrom_below B5.out).trans (keepsFrom_more hf6 (by have := hcl.out; omega))
          · exact (keepS_below B5.out).trans hk6
          · exact hk6.cell (fun h => by have := hD' _ h; omega) y0
          · exact (hSl.out.below B5.out).keepS hk6 hA2.out
          · show W.heap.size ≤ Y.heap.size
            have := hszX.out; have := B5.out.size; have := hk6.1; omega
        refine AllReadyIn.cons (o := ⟨some 12, _, _, _, _, _⟩) rfl (fun K hK => ?_) AllReadyIn.nil
        go_simp
        (refine ⟨trivial, fun _ => by omega, ?_⟩)
        refine (callsIn_wide.2 HC.out).mono ?_
        rintro e X5 ⟨A5, c5, rfl, h5⟩
        have B5 : Hid (Below X.heap.size X X5) := Lib.hid (B0.out.trans (h5.out.2.1.mono B0.out.size))
        have S5 : Hid (SlB X5 A5 n0 bd ∧ n0 ≤ c5 ∧ c5 ≤ maxLen) := ⟨h5.out.1, h5.out.2.2.1, h5.out.2.2.2⟩
        replace p0 := cell_below p0 h5.out.2.1
        replace y0 := cell_below y0 h5.out.2.1
        clear h5
        refine hK _ _ ?_
        clear hK K
        (repeat (first | simp only [Act.put] | simp only [List.setIfInBounds_toArray] | simp only [List.set_cons_succ] | simp only [List.set_cons_zero]))
        refine wpAnyIn_ready (rs := [2]) (by kernel_rfl) (by simp) ?_
        refine AllReadyIn.cons (o := ⟨some 9, _, _, _, _, _⟩) rfl (fun K hK => ?_) AllReadyIn.nil
        go_simp
        (try refine ⟨trivial, ?_⟩)
        refine hK _ _ ?_
        clear hK K
        (repeat (first | simp only [Act.put] | simp only [List.setIfInBounds_toArray] | simp only [List.set_cons_succ] | simp only [List.set_cons_zero]))
        obtain ⟨fn, tmps, assign, body, hyl, hR⟩ := HY.out pre' ⟨k, A5, n0, c5, s0⟩ X5 (HJg.out _ B5.out) (HG.out _ _ _ S5.out.1 S5.out.2.1 S5.out.2.2)
        dsimp only [encB] at hyl
        refine wpAnyIn_ready (rs := [6]) (by kernel_rfl) (by simp) ?_
        refine AllReadyIn.cons (o := ⟨some 13, _, _, _, _, _⟩) rfl (fun K hK => ?_) AllReadyIn.nil
        go_simp
        (refine ⟨fun _ => by omega, ?_⟩)
        refine (round_wide hR).mono ?_
        rintro e Y ⟨rfl, hJ6, hk6, hf6⟩
        refine hK _ _ ?_
        clear hK K
        (repeat (first | simp only [Act.put] | simp only [List.setIfInBounds_toArray] | simp only [List.set_cons_succ] | simp only [List.set_cons_zero]))
        refine wpAnyIn_take (i := 7) (oi := ⟨some 14, _, _, _, _, _⟩) (v := ?_) rfl rfl (by kernel_rfl) (by kernel_rfl) (by kernel_rfl) (fun _ _ _ h => h) ⟨Or.inl ⟨by kernel_rfl, ?_⟩, fun _ => rfl⟩ ?_
        rotate_left
        · (intro w0; go_simp; try with_reducible rfl)
        (repeat (first | simp only [Act.put] | simp only [List.setIfInBounds_toArray] | simp only [List.set_cons_succ] | simp only [List.set_cons_zero]))
        refine wpAnyIn_done (by kernel_rfl) ?_ _
        gi_wp2_with fail
        refine ⟨?_, ?_, ⟨pre' ++ [⟨k, A5, n0, c5, s0⟩], HM.out _ _ _, hJ6⟩, ?_, ?_, ?_⟩
        · exact (keepsFrom_below B5.out).trans (keepsFrom_more hf6 (by have := hcl.out; omega))
        · exact (keepS_below B5.out).trans hk6
        · exact hk6.cell (fun h => by have := hD' _ h; omega) y0
        · exact (hSl.out.below B5.out).keepS hk6 hA2.out
        · show W.heap.size ≤ Y.heap.size
          have := hszX.out; have := B5.out.size; have := hk6.1; omega
      refine AllReadyIn.cons (o := ⟨some 9, _, _, _, _, _⟩) rfl (fun K hK => ?_) ?_
      · go_simp
        (try refine ⟨trivial, ?_⟩)
        refine hK _ _ ?_
        clear hK K
        (repeat (first | simp only [Act.put] | simp only [List.setIfInBounds_toArray] | simp only [List.set_cons_succ] | simp only [List.set_cons_zero]))
        refine wpAnyIn_ready (rs := [0, 5]) (by kernel_rfl) (by simp) ?_
        refine AllReadyIn.cons (o := ⟨some 7, _, _, _, _, _⟩) rfl (fun K hK => ?_) ?_
        · go_simp
          (try refine ⟨trivial, ?_⟩)
          refine hK _ _ ?_
          clear hK K
          (repeat (first | simp only [Act.put] | simp only [List.setIfInBounds_toArray] | simp only [List.set_cons_succ] | simp only [List.set_cons_zero]))
          refine wpAnyIn_ready (rs := [5]) (by kernel_rfl) (by simp) ?_
          refine AllReadyIn.cons (o := ⟨some 12, _, _, _, _, _⟩) rfl (fun K hK => ?_) AllReadyIn.nil
          go_simp
          (refine ⟨trivial, fun _ => by omega, ?_⟩)
          refine (callsIn_wide.2 HC.out).mono ?_
          rintro e X5 ⟨A5, c5, rfl, h5⟩
          have B5 : Hid (Below X.heap.size X X5) := Lib.hid (B0.out.trans (h5.out.2.1.mono B0.out.size))
          have S5 : Hid (SlB X5 A5 n0 bd ∧ n0 ≤ c5 ∧ c5 ≤ maxLen) := ⟨h5.out.1, h5.out.2.2.1, h5.out.2.2.2⟩
          replace p0 := cell_below p0 h5.out.2.1
          replace y0 := cell_below y0 h5.out.2.1
          clear h5
          refine hK _ _ ?_
          clear hK K
          (repeat (first | simp only [Act.put] | simp only [List.setIfInBounds_toArray] | simp only [List.set_cons_succ] | simp only [List.set_cons_zero]))
          obtain ⟨fn, tmps, assign, body, hyl, hR⟩ := HY.out pre' ⟨k, A5, n0, c5, s0⟩ X5 (HJg.out _ B5.out) (HG.out _ _ _ S5.out.1 S5.out.2.1 S5.out.2.2)
          dsimp only [encB] at hyl
          refine wpAnyIn_ready (rs := [6]) (by kernel_rfl) (by simp) ?_
          refine AllReadyIn.cons (o := ⟨some 13, _, _, _, _, _⟩) rfl (fun K hK => ?_) AllReadyIn.nil
          go_simp
          (refine ⟨fun _ => by omega, ?_⟩)
          refine (round_wide hR).mono ?_
          rintro e Y ⟨rfl, hJ6, hk6, hf6⟩
          refine hK _ _ ?_
          clear hK K
          (repeat (first | simp only [Act.put] | simp only [List.setIfInBounds_toArray] | simp only [List.set_cons_succ] | simp only [List.set_cons_zero]))
          refine wpAnyIn_take (i := 7) (oi := ⟨some 14, _, _, _, _, _⟩) (v := ?_) rfl rfl (by kernel_rfl) (by kernel_rfl) (by kernel_rfl) (fun _ _ _ h => h) ⟨Or.inl ⟨by kernel_rfl, ?_⟩, fun _ => rfl⟩ ?_
          rotate_left
          · (intro w0; go_simp; try with_reducible rfl)
          (repeat (first | simp only [Act.put] | simp only [List.setIfInBounds_toArray] | simp only [List.set_cons_succ] | simp only [List.set_cons_zero]))
          refine wpAnyIn_done (by kernel_rfl) ?_ _
          gi_wp2_with fail
          refine ⟨?_, ?_, ⟨pre' ++ [⟨k, A5, n0, c5, s0⟩], HM.out _ _ _, hJ6⟩, ?_, ?_, ?_⟩
          · exact (keepsFrom_below B5.out).trans (keepsFrom_more hf6 (by have := hcl.out; omega))
          · exact (keepS_below B5.out).trans hk6
          · exact hk6.cell (fun h => by have := hD' _ h; omega) y0
          · exact (hSl.out.below B5.out).keepS hk6 hA2.out
          · show W.heap.size ≤ Y.heap.size
            have := hszX.out; have := B5.out.size; have := hk6.1; omega
        refine AllReadyIn.cons (o := ⟨some 12, _, _, _, _, _⟩) rfl (fun K hK => ?_) AllReadyIn.nil
        go_simp
        (refine ⟨trivial, fun _ => by omega, ?_⟩)
        refine (callsIn_wide.2 HC.out).mono ?_
        rintro e X5 ⟨A5, c5, rfl, h5⟩
        have B5 : Hid (Below X.heap.size X X5) := Lib.hid (B0.out.trans (h5.out.2.1.mono B0.out.size))
        have S5 : Hid (SlB X5 A5 n0 bd ∧ n0 ≤ c5 ∧ c5 ≤ maxLen) := ⟨h5.out.1, h5.out.2.2.1, h5.out.2.2.2⟩
        replace p0 := cell_below p0 h5.out.2.1
        replace y0 := cell_below y0 h5.out.2.1
        clear h5
        refine hK _ _ ?_
        clear hK K
        (repeat (first | simp only [Act.put] | simp only [List.setIfInBounds_toArray] | simp only [List.set_cons_succ] | simp only [List.set_cons_zero]))
        refine wpAnyIn_ready (rs := [0]) (by kernel_rfl) (by simp) ?_
        refine AllReadyIn.cons (o := ⟨some 7, _, _, _, _, _⟩) rfl (fun K hK => ?_) AllReadyIn.nil
        go_simp
        (try refine ⟨trivial, ?_⟩)
        refine hK _ _ ?_
        clear hK K
        (repeat (first | simp only [Act.put] | simp only [List.setIfInBounds_toArray] | simp only [List.set_cons_succ] | simp only [List.set_cons_zero]))
        obtain ⟨fn, tmps, assign, body, hyl, hR⟩ := HY.out pre' ⟨k, A5, n0, c5, s0⟩ X5 (HJg.out _ B5.out) (HG.out _ _ _ S5.out.1 S5.out.2.1 S5.out.2.2)
        dsimp only [encB] at hyl
        refine wpAnyIn_ready (rs := [6]) (by kernel_rfl) (by simp) ?_
        refine AllReadyIn.cons (o := ⟨some 13, _, _, _, _, _⟩) rfl (fun K hK => ?_) AllReadyIn.nil
        go_simp
        (refine ⟨fun _ => by omega, ?_⟩)
        refine (round_wide hR).mono ?_
        rintro e Y ⟨rfl, hJ6, hk6, hf6⟩
        refine hK _ _ ?_
        clear hK K
        (repeat (first | simp only [Act.put] | simp only [List.setIfInBounds_toArray] | simp only [List.set_cons_succ] | simp only [List.set_cons_zero]))
        refine wpAnyIn_take (i := 7) (oi := ⟨some 14, _, _, _, _, _⟩) (v := ?_) rfl rfl (by kernel_rfl) (by kernel_rfl) (by kernel_rfl) (fun _ _ _ h => h) ⟨Or.inl ⟨by kernel_rfl, ?_⟩, fun _ => rfl⟩ ?_
        rotate_left
        · (intro w0; go_simp; try with_reducible rfl)
        (repeat (first | simp only [Act.put] | simp only [List.setIfInBounds_toArray] | simp only [List.set_cons_succ] | simp only [List.set_cons_zero]))
        refine wpAnyIn_done (by kernel_rfl) ?_ _
        gi_wp2_with fail
        refine ⟨?_, ?_, ⟨pre' ++ [⟨k, A5, n0, c5, s0⟩], HM.out _ _ _, hJ6⟩, ?_, ?_, ?_⟩
        · exact (keepsFrom_below B5.out).trans (keepsFrom_more hf6 (by have := hcl.out; omega))
        · exact (keepS_below B5.out).trans hk6
        · exact hk6.cell (fun h => by have := hD' _ h; omega) y0
        · exact (hSl.out.below B5.out).keepS hk6 hA2.out
        · show W.heap.size ≤ Y.heap.size
          have := hszX.out; have := B5.out.size; have := hk6.1; omega
      refine AllReadyIn.cons (o := ⟨some 12, _, _, _, _, _⟩) rfl (fun K hK => ?_) AllReadyIn.nil
      go_simp
      (refine ⟨trivial, fun _ => by omega, ?_⟩)
      refine (callsIn_wide.2 HC.out).mono ?_
      rintro e X5 ⟨A5, c5, rfl, h5⟩
      have B5 : Hid (Below X.heap.size X X5) := Lib.hid (B0.out.trans (h5.out.2.1.mono B0.out.size))
      have S5 : Hid (SlB X5 A5 n0 bd ∧ n0 ≤ c5 ∧ c5 ≤ maxLen) := ⟨h5.out.1, h5.out.2.2.1, h5.out.2.2.2⟩
      replace p0 := cell_below p0 h5.out.2.1
      replace y0 := cell_below y0 h5.out.2.1
      clear h5
      refine hK _ _ ?_
      clear hK K
      (repeat (first | simp only [Act.put] | simp only [List.setIfInBounds_toArray] | simp only [List.set_cons_succ] | simp only [List.set_cons_zero]))
      refine wpAnyIn_ready (rs := [0, 2]) (by kernel_rfl) (by simp) ?_
      refine AllReadyIn.cons (o := ⟨some 7, _, _, _, _, _⟩) rfl (fun K hK => ?_) ?_
      · go_simp
        (try refine ⟨trivial, ?_⟩)
        refine hK _ _ ?_
        clear hK K
        (repeat (first | simp only [Act.put] | simp only [List.setIfInBounds_toArray] | simp only [List.set_cons_succ] | simp only [List.set_cons_zero]))
        refine wpAnyIn_ready (rs := [2]) (by kernel_rfl) (by simp) ?_
        refine AllReadyIn.cons (o := ⟨some 9, _, _, _, _, _⟩) rfl (fun K hK => ?_) AllReadyIn.nil
        go_simp
        (try refine ⟨trivial, ?_⟩)
        refine hK _ _ ?_
        clear hK K
        (repeat (first | simp only [Act.put] | simp only [List.setIfInBounds_toArray] | simp only [List.set_cons_succ] | simp only [List.set_cons_zero]))
        obtain ⟨fn, tmps, assign, body, hyl, hR⟩ := HY.out pre' ⟨k, A5, n0, c5, s0⟩ X5 (HJg.out _ B5.out) (HG.out _ _ _ S5.out.1 S5.out.2.1 S5.out.2.2)
        dsimp only [encB] at hyl
        refine wpAnyIn_ready (rs := [6]) (by kernel_rfl) (by simp) ?_
        refine AllReadyIn.cons (o := ⟨some 13, _, _, _, _, _⟩) rfl (fun K hK => ?_) AllReadyIn.nil
        go_simp
        (refine ⟨fun _ => by omega, ?_⟩)
        refine (round_wide hR).mono ?_
        rintro e Y ⟨rfl, hJ6, hk6, hf6⟩
        refine hK _ _ ?_
        clear hK K
        (repeat (first | simp only [Act.put] | simp only [List.setIfInBounds_toArray] | simp only [List.set_cons_succ] | simp only [List.set_cons_zero]))
        refine wpAnyIn_take (i := 7) (oi := ⟨some 14, _, _, _, _, _⟩) (v := ?_) rfl rfl (by kernel_rfl) (by kernel_rfl) (by kernel_rfl) (fun _ _ _ h => h) ⟨Or.inl ⟨by kernel_rfl, ?_⟩, fun _ => rfl⟩ ?_
        rotate_left
        · (intro w0; go_simp; try with_reducible rfl)
        (repeat (first | simp only [Act.put] | simp only [List.setIfInBounds_toArray] | simp only [List.set_cons_succ] | simp only [List.set_cons_zero]))
        refine wpAnyIn_done (by kernel_rfl) ?_ _
        gi_wp2_with fail
        refine ⟨?_, ?_, ⟨pre' ++ [⟨k, A5, n0, c5, s0⟩], HM.out _ _ _, hJ6⟩, ?_, ?_, ?_⟩
        · exact (keepsFrom_below B5.out).trans (keepsFrom_more hf6 (by have := hcl.out; omega))
        · exact (keepS_below B5.out).trans hk6
        · exact hk6.cell (fun h => by have := hD' _ h; omega) y0
        · exact (hSl.out.below B5.out).keepS hk6 hA2.out
        · show W.heap.size ≤ Y.heap.size
          have := hszX.out; have := B5.out.size; have := hk6.1; omega
      refine AllReadyIn.cons (o := ⟨some 9, _, _, _, _, _⟩) rfl (fun K hK => ?_) AllReadyIn.nil
      go_simp
      (try refine ⟨trivial, ?_⟩)
      refine hK _ _ ?_
      clear hK K
      (repeat (first | simp only [Act.put] | simp only [List.setIfInBounds_toArray] | simp only [List.set_cons_succ] | simp only [List.set_cons_zero]))
      refine wpAnyIn_ready (rs := [0]) (by kernel_rfl) (by simp) ?_
      refine AllReadyIn.cons (o := ⟨some 7, _, _, _, _, _⟩) rfl (fun K hK => ?_) AllReadyIn.nil
      go_simp
      (try refine ⟨trivial, ?_⟩)
      refine hK _ _ ?_
      clear hK K
      (repeat (first | simp only [Act.put] | simp only [List.setIfInBounds_toArray] | simp only [List.set_cons_succ] | simp only [List.set_cons_zero]))
      obtain ⟨fn, tmps, assign, body, hyl, hR⟩ := HY.out pre' ⟨k, A5, n0, c5, s0⟩ X5 (HJg.out _ B5.out) (HG.out _ _ _ S5.out.1 S5.out.2.1 S5.out.2.2)
      dsimp only [encB] at hyl
      refine wpAnyIn_ready (rs := [6]) (by kernel_rfl) (by simp) ?_
      refine AllReadyIn.cons (o := ⟨some 13, _, _, _, _, _⟩) rfl (fun K hK => ?_) AllReadyIn.nil
      go_simp
      (refine ⟨fun _ => by omega, ?_⟩)
      refine (round_wide hR).mono ?_
      rintro e Y ⟨rfl, hJ6, hk6, hf6⟩
      refine hK _ _ ?_
      clear hK K
      (repeat (first | simp only [Act.put] | simp only [List.setIfInBounds_toArray] | simp only [List.set_cons_succ] | simp only [List.set_cons_zero]))
      refine wpAnyIn_take (i := 7) (oi := ⟨some 14, _, _, _, _, _⟩) (v := ?_) rfl rfl (by kernel_rfl) (by kernel_rfl) (by kernel_rfl) (fun _ _ _ h => h) ⟨Or.inl ⟨by kernel_rfl, ?_⟩, fun _ => rfl⟩ ?_
      rotate_left
      · (intro w0; go_simp; try with_reducible rfl)
      (repeat (first | simp only [Act.put] | simp only [List.setIfInBounds_toArray] | simp only [List.set_cons_succ] | simp only [List.set_cons_zero]))
      refine wpAnyIn_done (by kernel_rfl) ?_ _
      gi_wp2_with fail
      refine ⟨?_, ?_, ⟨pre' ++ [⟨k, A5, n0, c5, s0⟩], HM.out _ _ _, hJ6⟩, ?_, ?_, ?_⟩
      · exact (keepsFrom_below B5.out).trans (keepsFrom_more hf6 (by have := hcl.out; omega))
      · exact (keepS_below B5.out).trans hk6
      · exact hk6.cell (fun h => by have := hD' _ h; omega) y0
      · exact (hSl.out.below B5.out).keepS hk6 hA2.out
      · show W.heap.size ≤ Y.heap.size
        have := hszX.out; have := B5.out.size; have := hk6.1; omega
  case done =>
    rintro ys Y hys ⟨⟨pre', hm, hJ1⟩, hy, hSX, hsz⟩ hK
    have hJ2 : J pre' (Y.putObj W2.heap.size (.deferred none)) := hJ.putObj _ hJ1 hb2.size hK rfl
    have hys2 : pre'.map (·.sz) = sizes l := hm.trans hys
    clear hJ1 hm hys hz2
    gi_wp2_with fail
    all_goals
      refine ⟨by simp, .inl ⟨_, _, rfl, run_takeDeferred hK, ?_⟩⟩
      exact ⟨.tuple #[], by simp [results, Try.results15, go_sem], ⟨_, rfl⟩, pre', hys2, hJ2⟩
end Go.Proofs.Ytgbbckjbpgojaaa
