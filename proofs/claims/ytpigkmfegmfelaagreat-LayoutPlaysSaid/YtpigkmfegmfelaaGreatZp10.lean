/- What the laws lean on, in a few texts (by shake.py): number 10 of 13. -/
import Derived.Test.YtpigkmfegmfelaaGreatZp1
import Derived.Test.YtpigkmfegmfelaaGreatZp4
import Derived.Test.YtpigkmfegmfelaaGreatZp8
import Derived.Test.YtpigkmfegmfelaaGreatZp7
import Derived.Test.YtpigkmfegmfelaaGreatZp2
import Derived.Maps.AppendAt
import Derived.Deep.MidRow

set_option maxHeartbeats 16000000
set_option maxRecDepth 1000000
set_option linter.unusedVariables false
namespace Go.Proofs.YtpigkmfegmfelaaGreat
open Go.RowKit Go.Sort Go.Lib Go.Shelf

theorem rSortedO_c (A : Option Addr) (n c : Nat) (L : List Od) (w : World) (H : Ods w A n L) (hn : n ≤ 1000) :
    Calls Tryz.prog 45 #[.slice A n c] w fun e w' => ∃ A c, e = .returned (.slice A L.length c) ∧ Hid (Below w.heap.size w w' ∧ w'.ownsRow w.heap.size 49 6 (.slice A L.length c) L.length (ol (sortO L))) := by
  obtain ⟨i0, hi0, hz0, hz1, hz2⟩ := info_parts info_ro
  have HO : Aside (Ods w A n L) := H
  have HLn := Lib.hid H.1
  clear H
  have hown0 : (w.alloc (Obj.cells #[] 49)).ownsRow w.heap.size 49 6 (.slice (some ⟨w.heap.size, 0, none⟩) 0 0) 0 [] :=
    ⟨rfl, .inr ⟨w.heap.size, 0, #[], rfl, Nat.le_refl _, heap_alloc_new w _, Nat.le_refl _, Nat.zero_le _, rfl, rfl⟩⟩
  have B0 : Hid (Below w.heap.size w (w.alloc (Obj.cells #[] 49))) := (Below.refl _ _).alloc (Nat.le_refl _) _
  have HS1 := Lib.hid (rSide_c A n c 1 L _ (HO.out.below B0.out) hn)
  go_enter Tryz.func45, Tryz.ntmps45
  go_wp2_with ((with_reducible refine (HS1.out).mono ?_); rintro e w1 ⟨A1, n1, c1, rfl, HF1⟩)
  have HO1 : Aside (Ods w1 A1 n1 ((fz 1 L).map Prod.fst)) := by
    show Ods _ _ _ _
    rw [fz_fst]; exact HF1.out.2.1
  have hn1 : n1 ≤ n := by
    have h1 := HF1.out.2.1.1
    have h2 := fil_le 1 L
    have h3 := HLn.out
    omega
  have B1 : Hid (Below w.heap.size w w1) := B0.out.trans (HF1.out.1.mono B0.out.size)
  have hown1 := own_fr (S := fun _ => False) hown0 (Fr.of_below HF1.out.1) (fun _ _ h => h)
  refine (rSorted1_c A1 n1 c1 (fz 1 L) w1 HO1.out (by omega) HF1.out.2.2.1 (fz_sel (.inl rfl) L)).mono ?_
  rintro e w2 ⟨O1, p1, s1, A2, n2, c2, rfl, HF2⟩
  have hown2 := own_fr (S := fun _ => False) hown1 (Fr.of_below HF2.out.1) (fun _ _ h => h)
  have B2 : Hid (Below w.heap.size w w2) := B1.out.trans (HF2.out.1.mono B1.out.size)
  have HO2 : Aside (Ods w2 A2 n2 (O1.map Prod.fst)) := HF2.out.2.1
  have P1 : Hid (O1.Perm (fz 1 L) ∧ O1.Pairwise (fun x y => ltR ltO y x = false)) := ⟨p1, s1⟩
  have hc2 : CapOk A2 n2 c2 := HF2.out.2.2
  have hn2 : n2 ≤ n := by
    have h1 := HO2.out.1
    have h2 := p1.length_eq
    have h3 := fil_le 1 L
    rw [← fz_fst] at h3
    rw [List.length_map] at h1 h3
    have h4 := HLn.out
    omega
  clear p1 s1 HF1 HF2 HO1 hown0 hown1 B0 B1 HS1 hn1
  have hs2 := B2.out.size
  go_wp2_with (at_builtin; refine append_row rfl _ _ rfl w.heap.size _ _ _ rfl hown2 A2 n2 c2 _ rfl HO2.out hc2 (by omega) hs2 ?_)
  intro v1 w3 hown3 b3
  have B3 : Hid (Below w.heap.size w w3) := B2.out.trans b3
  have HS2 := Lib.hid (rSide_c A n c 2 L w3 (HO.out.below B3.out) hn)
  clear b3 hown2 HO2 hc2 B2 hs2
  go_wp2_with fail
  refine HS2.out.mono ?_
  rintro e w4 ⟨A3, n3, c3, rfl, HF3⟩
  have HO3 : Aside (Ods w4 A3 n3 ((fz 2 L).map Prod.fst)) := by
    show Ods _ _ _ _
    rw [fz_fst]; exact HF3.out.2.1
  have hn3 : n3 ≤ n := by
    have h1 := HF3.out.2.1.1
    have h2 := fil_le 2 L
    have h3 := HLn.out
    omega
  have B4 : Hid (Below w.heap.size w w4) := B3.out.trans (HF3.out.1.mono B3.out.size)
  have hown4 := own_fr (S := fun _ => False) hown3 (Fr.of_below HF3.out.1) (fun _ _ h => h)
  have HC2 := Lib.hid (rSorted1_c A3 n3 c3 (fz 2 L) w4 HO3.out (by omega) HF3.out.2.2.1 (fz_sel (.inr rfl) L))
  clear hown3 B3 HS2 HO3 HF3
  go_wp2_with fail
  refine HC2.out.mono ?_
  rintro e w5 ⟨O2, p2, s2, A4, n4, c4, rfl, HF4⟩
  have hown5 := own_fr (S := fun _ => False) hown4 (Fr.of_below HF4.out.1) (fun _ _ h => h)
  have B5 : Hid (Below w.heap.size w w5) := B4.out.trans (HF4.out.1.mono B4.out.size)
  have HO4 : Aside (Ods w5 A4 n4 (O2.map Prod.fst)) := HF4.out.2.1
  have P2 : Hid (O2.Perm (fz 2 L) ∧ O2.Pairwise (fun x y => ltR ltO y x = false)) := ⟨p2, s2⟩
  have hc4 : CapOk A4 n4 c4 := HF4.out.2.2
  have hn4 : n4 ≤ n := by
    have h1 := HO4.out.1
    have h2 := p2.length_eq
    have h3 := fil_le 2 L
    rw [← fz_fst] at h3
    rw [List.length_map] at h1 h3
    have h4 := HLn.out
    omega
  clear p2 s2 HF4 hown4 B4 HC2 hn3
  have hs5 := B5.out.size
  go_wp2_with (at_builtin; refine append_row rfl _ _ rfl w.heap.size _ _ _ rfl hown5 A4 n4 c4 _ rfl HO4.out hc4 (by omega) hs5 ?_)
  intro v2 w6 hown6 b6
  have B6 : Hid (Below w.heap.size w w6) := B5.out.trans b6
  have HS3 := Lib.hid (rSide_c A n c 0 L w6 (HO.out.below B6.out) hn)
  clear b6 hown5 HO4 hc4 B5 hs5
  go_wp2_with fail
  refine HS3.out.mono ?_
  rintro e w7 ⟨A5, n5, c5, rfl, HF5⟩
  have hown7 := own_fr (S := fun _ => False) hown6 (Fr.of_below HF5.out.1) (fun _ _ h => h)
  have B7 : Hid (Below w.heap.size w w7) := B6.out.trans (HF5.out.1.mono B6.out.size)
  have HO5 : Aside (Ods w7 A5 n5 (L.filter (ofO 0))) := HF5.out.2.1
  have hc5 : CapOk A5 n5 c5 := HF5.out.2.2
  have hn5 : n5 ≤ n := by
    have h1 := HO5.out.1
    have h2 := fil_le 0 L
    have h3 := HLn.out
    omega
  clear HF5 hown6 B6 HS3
  have hs7 := B7.out.size
  go_wp2_with (at_builtin; refine append_row rfl _ _ rfl w.heap.size _ _ _ rfl hown7 A5 n5 c5 _ rfl HO5.out hc5 (by omega) hs7 ?_)
  intro v3 w8 hown8 b8
  have B8 : Hid (Below w.heap.size w w8) := B7.out.trans b8
  have e8 : [] ++ ol (O1.map Prod.fst) ++ ol (O2.map Prod.fst) ++ ol (L.filter (ofO 0)) = ol (sortO L) := by
    rw [sortO_sides P1.out.1 P1.out.2 P2.out.1 P2.out.2, List.nil_append]
    unfold ol
    rw [List.flatMap_append, List.flatMap_append]
  have e9 : ol (O1.map Prod.fst) ++ ol (O2.map Prod.fst) ++ ol (L.filter (ofO 0)) = ol (sortO L) := by rw [← e8, List.nil_append]
  obtain ⟨m8, hm8⟩ : ∃ m, m = n2 + n4 + n5 := ⟨_, rfl⟩
  have hown9 : w8.ownsRow w.heap.size 49 6 v3 m8 (ol (sortO L)) := by
    rw [← e9, hm8]
    simpa using hown8
  have h8 : m8 ≤ 1000 := by
    have h1 := hown9.1
    rw [ol_len, sortO_len, HLn.out] at h1
    omega
  have hm9 : m8 = L.length := by
    have h1 := hown9.1
    rw [ol_len, sortO_len] at h1
    omega
  subst hm9
  obtain ⟨A8, c8, rfl, _⟩ := own_que2 hown9
  have HF : Hid (Below w.heap.size w w8 ∧ w8.ownsRow w.heap.size 49 6 (.slice A8 L.length c8) L.length (ol (sortO L))) := ⟨B8.out, hown9⟩
  clear hown9 hown8 b8 hown7 HO5 hc5 B7 B8 hm8 e8 e9 hs7 P1 P2
  go_wp2_with fail
  go_ret
  exact ⟨A8, c8, rfl, HF⟩

def RB (W : World) (wb : Nat) (M : List Od) : Prop := ∃ A c, Cl 46 W wb #[.slice A M.length c] ∧ W.ownsRow 0 49 6 (.slice A M.length c) M.length (ol M)
def idxN (id : Int) (M : List Od) : Nat := M.findIdx (fun x => x.id == id)
def atI (id : Int) (M : List Od) : Int := if idxN id M < M.length then (idxN id M : Int) else -1
theorem idx_at {id : Int} {M : List Od} {i : Nat} (hi : i < M.length) (hn : ∀ k, k < i → ¬ (M[k]!).id = id) (he : (M[i]!).id = id) : idxN id M = i := by
  unfold idxN
  rw [List.findIdx_eq hi]
  refine ⟨?_, fun j hj => ?_⟩
  · rw [getElem!_pos M i hi] at he
    simp [he]
  · have := hn j hj
    rw [getElem!_pos M j (by omega)] at this
    simp [this]
theorem idx_none {id : Int} {M : List Od} (hn : ∀ x ∈ M, ¬ x.id = id) : idxN id M = M.length := by
  unfold idxN
  rw [List.findIdx_eq_length]
  intro x hx
  simp [hn x hx]
theorem idx_get {id : Int} {M : List Od} (h : idxN id M < M.length) : (M[idxN id M]!).id = id := by
  rw [getElem!_pos M _ h]
  have := List.findIdx_getElem (w := h)
  exact eq_of_beq this
theorem idx_some {id : Int} {M : List Od} {x : Od} (hx : x ∈ M) (he : x.id = id) : idxN id M < M.length := by
  unfold idxN
  rw [List.findIdx_lt_length]
  exact ⟨x, hx, by simp [he]⟩
theorem rAt_c (wb : Nat) (id : Int) (M : List Od) (w : World) (H : RB w wb M) (hn : M.length ≤ 1000) :
    Calls Tryz.prog 52 #[.pointer (some ⟨wb, 0, none⟩), .int .u64 id] w fun e w' => e = .returned (.int .i64 (atI id M)) ∧ w' = w := by
  obtain ⟨A, c, hc, hr⟩ := H
  have c0 : w.cell? ⟨wb, 0, none⟩ = some (.slice A M.length c) := (hc.c 0).trans rfl
  obtain ⟨A', c', hv, hq⟩ := own_que hr
  injection hv with e1 _ _
  subst e1
  have HQ := Lib.hid hq.2
  obtain ⟨n, hl⟩ : ∃ n, M.length = n := ⟨_, rfl⟩
  obtain ⟨R, hR⟩ : ∃ R, atI id M = R := ⟨_, rfl⟩
  have HR := Lib.hid hR
  have HM := Lib.hid hl
  rw [hl] at c0 HQ hn
  rw [hR]
  clear hc hr hq hl hR
  go_enter Tryz.func52, Tryz.ntmps52
  go_wp2_with fail
  go_loopw [5] (fun s wr => ∃ i : Nat, s = .int .i64 (i : Int) ∧ wr = w ∧ Hid (i ≤ n ∧ ∀ k, k < i → ¬ (M[k]!).id = id)) (fun s _ => match s with | .int _ z => n - z.toNat | _ => 0)
  case atStart => exact ⟨0, rfl, rfl, Nat.zero_le _, fun k hk => absurd hk (Nat.not_lt_zero _)⟩
  case round =>
    obtain ⟨i, rfl, rfl, hd⟩ := hrel
    by_cases hi : i < n
    · obtain ⟨g, rfl, hg⟩ : ∃ g, A = some ⟨g, 0, none⟩ ∧ (M[i]!).at wr g (i * 6) := by
        rcases HQ.out with h0 | ⟨g, h1, _, h3⟩
        · omega
        · exact ⟨g, h1, h3 i hi⟩
      have hid0 := hg.1
      obtain ⟨y, hy⟩ : ∃ y, (M[i]!).id = y := ⟨_, rfl⟩
      rw [hy] at hid0
      have hiI : (i : Int) < (n : Int) := by omega
      have Hi := Lib.hid (And.intro hi hy)
      have hw9 : IntKind.i64.wrap ((i : Int) + 1) = ((i + 1 : Nat) : Int) := by rw [IntKind.wrap_i64]; omega
      clear hg hy hi
      by_cases he : y = id
      · have eb : (y == id) = true := by simp [he]
        have hz : R = (i : Int) := by
          have h1 := idx_at (id := id) (M := M) (i := i) (by rw [HM.out]; exact Hi.out.1) hd.out.2 (by rw [Hi.out.2]; exact he)
          rw [← HR.out]
          unfold atI
          rw [h1, if_pos (by rw [HM.out]; exact Hi.out.1)]
        subst hz
        clear he
        go_wp2_with fail
        go_ret
        exact ⟨rfl, rfl⟩
      · have eb : (y == id) = false := by simp [he]
        have He := Lib.hid he
        clear he
        go_wp2_with fail
        refine ⟨⟨i + 1, rfl, (by first | rfl | trivial), Hi.out.1, fun k hk => ?_⟩, less_left Hi.out.1⟩
        rcases Nat.lt_succ_iff_lt_or_eq.1 hk with h | h
        · exact hd.out.2 k h
        · rw [h, Hi.out.2]; exact He.out
    · have hiI : ¬ (i : Int) < (n : Int) := by omega
      have hz : R = -1 := by
        rw [← HR.out]
        unfold atI
        rw [if_neg]
        rw [idx_none (none_there HM.out hi hd.out.2)]
        omega
      subst hz
      clear hi
      go_wp2_with fail
      go_ret
      first | exact ⟨rfl, rfl⟩ | exact ⟨trivial, rfl⟩

theorem step_append {P : Program} {ops : Array Oper} {o : Oper} {a : Act} {w : World} {K : Act → World → Prop} {Q : Exit → Act → World → Prop} {E : Prop}
    (hg : o.guard = none) (s x : Operand) (t : TypeId) (hop : o.op = Op.call { callee := Callee.builtin Builtin.append, args := #[s, x], argTypes := #[t, t] })
    (v u : Value) (hs : a.eval s = v) (hx : a.eval x = u) {v' : Value} {w' : World} (hr : (Builtin.append_ #[t, t] o.type #[v, u]).run P w = .ok v' w') (hK : K (a.put o.dst v') w') :
    if Region.wanted o (yielded ops a.tmps) = true then Oper.wp P o a w K Q else E := by
  have hw : Region.wanted o (yielded ops a.tmps) = true := by simp [Region.wanted, hg]
  rw [if_pos hw]
  unfold Oper.wp
  simp [execOp, hop, resolve, invoke, builtin, hs, hx, hr, Result.andThen]
  exact hK
theorem run_app (W : World) (base : Nat) (ty : TypeId) (v : Value) (n : Nat) (xs : List Value) (hown : W.ownsRow base 49 6 v n xs) (A : Option Addr) (m c : Nat) (L : List Od) (hs : W.ownsRow 0 49 6 (.slice A m c) m (ol L)) (hb : n + m ≤ 3000) (hbase : base ≤ W.heap.size) :
    ∃ v' w', (Builtin.append_ #[29, 29] ty #[v, .slice A m c]).run Tryz.prog W = .ok v' w' ∧ w'.ownsRow base 49 6 v' (n + m) (xs ++ ol L) ∧ W.grownBy w' v.ownBlock ∧ (v'.ownBlock = v.ownBlock ∨ v'.ownBlock = some W.heap.size) := by
  obtain ⟨i0, hi0, hz0, hz1, hz2⟩ := info_parts info_ro
  rcases hs.2 with ⟨hv, h0⟩ | ⟨k, cap, cur, hv, _, hk, _, _, _, ht⟩
  · have hL : L = [] := by have := hs.1; rw [ol_len, h0] at this; exact List.length_eq_zero_iff.1 (by omega)
    rw [hv, h0, hL]
    have hrun := run_append_owned_none (P := Tryz.prog) (w := W) base 29 ty _ i0 6 Tryz.underlying29 hi0 v n xs hown
    exact ⟨v, W, hrun, by simpa [ol] using hown, World.grownBy.refl _ _, .inl rfl⟩
  · injection hv with e1 e2 e3
    subst e1
    obtain ⟨v', w', h1, h2, h3, _, h5⟩ := run_append_own_at (P := Tryz.prog) W base 29 ty _ i0 (.agg (OC ⟨0, 0, 0, 0, 0, 0⟩)) 6 48 Tryz.underlying29 hi0 hz0 hz1 hz2 rfl (by decide) v n xs hown ⟨k, 0, none⟩ m c (ol L) hs.1 (fun j u hj => by
      rw [addr_add, Nat.zero_add, cell_of_row _ _ _ _ _ _ hk]
      rw [← ht, List.getElem?_take] at hj
      split at hj
      · rw [Array.getElem?_toList] at hj; exact hj
      · cases hj) (ol_one _) (by unfold maxLen; omega) (by omega) hbase
    exact ⟨v', w', h1, h2, h3, h5⟩
theorem own_one {W : World} {vb : Nat} {o : Od} (h : Cl 49 W vb (OC o)) : W.ownsRow 0 49 6 (.slice (some ⟨vb, 0, none⟩) 1 1) 1 (ol [o]) :=
  ⟨rfl, .inr ⟨vb, 1, OC o, rfl, Nat.zero_le _, h, Nat.le_refl _, by unfold maxLen; omega, rfl, rfl⟩⟩
theorem below_own {w W w' : World} {T : TypeId} {v : Value} {n size : Nat} {xs : List Value} (hb : Below w.heap.size w W) (ho : W.ownsRow w.heap.size T size v n xs) (hg : W.grownBy w' v.ownBlock) : Below w.heap.size w w' :=
  hb.trans (Below.grown ((Below.refl _ _).mono hb.size) hg hb.size (fun k hk => (ho.lt k hk).1))
theorem own_low {w W : World} {base n size : Nat} {T : TypeId} {v : Value} {xs : List Value} (h : w.ownsRow base T size v n xs) (hb : Below w.heap.size w W) : W.ownsRow base T size v n xs := own_fr h (S := fun _ => False) (Fr.of_below hb) (fun _ _ h => h)
def RAdd (w w' : World) (wb : Nat) (M M' : List Od) (o : Od) (c : Int) : Prop :=
  RB w' wb M' ∧ Fr (fun k => k = wb) w w' ∧ ((goodO o = false ∧ c = 2 ∧ M' = M) ∨ (goodO o = true ∧ c = 52 ∧ (∃ x ∈ M, x.id = o.id) ∧ M' = M) ∨
    (goodO o = true ∧ (∀ x ∈ M, ¬ x.id = o.id) ∧ ((64 ≤ M.length ∧ c = 50 ∧ M' = M) ∨ (M.length < 64 ∧ c = 0 ∧ M' = sortO (M ++ [o])))))
theorem radd_end {w w1 y2 y3 : World} {wb c : Nat} {A A3 : Option Addr} {c3 : Nat} {M : List Od} {o : Od} (hc : Cl 46 y3 wb #[.slice A M.length c]) (hb : y3.ownsRow y2.heap.size 49 6 (.slice A3 (M.length + 1) c3) (M.length + 1) (ol (sortO (M ++ [o])))) (h1 : Below w.heap.size w w1) (hb3 : Below w1.heap.size w1 y3) :
    RB (y3.setCell ⟨wb, 0, none⟩ (.slice A3 (M.length + 1) c3)) wb (sortO (M ++ [o])) ∧ Fr (fun k => k = wb) w (y3.setCell ⟨wb, 0, none⟩ (.slice A3 (M.length + 1) c3)) := by
  have hl : (sortO (M ++ [o])).length = M.length + 1 := by rw [sortO_len, List.length_append]; rfl
  refine ⟨⟨A3, c3, ?_, ?_⟩, ?_⟩
  · rw [hl]; exact (heap_set hc).trans rfl
  · rw [hl]
    refine own_fr (own_base hb (Nat.zero_le _)) ((Fr.refl (fun k => k = wb) y3).set (p := ⟨wb, 0, none⟩) (.inl rfl) _) (fun k hk e => ?_)
    subst e
    exact own_ne hb hc (by decide) hk
  · exact ((Fr.of_below (h1.trans (hb3.mono h1.size)) : Fr (fun k => k = wb) w y3)).set (p := ⟨wb, 0, none⟩) (.inl rfl) _
theorem radd_bad (wb : Nat) (M : List Od) (o : Od) (w : World) (H : RB w wb M) (hn : M.length ≤ 1000) (hg : goodO o = false) :
    Calls Tryz.prog 24 #[.pointer (some ⟨wb, 0, none⟩), (.agg #[.int .u64 o.id, .int .i64 o.acc, .int .i64 o.side, .int .i64 o.price, .int .i64 o.qty, .int .u64 o.seq])] w fun e w' => ∃ c M', e = .returned (.int .i64 c) ∧ Hid (RAdd w w' wb M M' o c) := by
  have mixed : Tryz.prog.follows .mixedOrders = true := by kernel_rfl
  obtain ⟨A, c, hcl, hrw⟩ := H
  have HH : Hid (∀ W, Below w.heap.size w W → RB W wb M) := fun W hW => ⟨A, c, (hW.block _ (blk_lt hcl)).trans hcl, own_low hrw hW⟩
  have HN := Lib.hid hn
  have HC0 : Hid (∀ W, Below w.heap.size w W → W.cell? ⟨wb, 0, none⟩ = some (.slice A M.length c)) := fun W hW => (Cl.c (T := 46) ((hW.block _ (blk_lt hcl)).trans hcl) 0).trans rfl
  have HB0 : Hid (∀ W, Below w.heap.size w W → Cl 46 W wb #[.slice A M.length c]) := fun W hW => (hW.block _ (blk_lt hcl)).trans hcl
  have HR0 : Hid (∀ W, Below w.heap.size w W → W.ownsRow 0 49 6 (.slice A M.length c) M.length (ol M)) := fun W hW => own_low hrw hW
  have hwb := blk_lt hcl
  obtain ⟨w0, hw0⟩ : ∃ w0, w.alloc (.cells #[.int .u64 o.id, .int .i64 o.acc, .int .i64 o.side, .int .i64 o.price, .int .i64 o.qty, .int .u64 o.seq] 49) = w0 := ⟨_, rfl⟩
  have B0 : Below w.heap.size w w0 := by rw [← hw0]; exact (Below.refl _ _).alloc (Nat.le_refl _) _
  have hO0 : Cl 49 w0 w.heap.size (OC o) := by rw [← hw0]; exact hd_last rfl
  have HG : Hid (∀ W, Calls Tryz.prog 46 #[(.agg #[.int .u64 o.id, .int .i64 o.acc, .int .i64 o.side, .int .i64 o.price, .int .i64 o.qty, .int .u64 o.seq])] W fun e w' => e = .returned (.bool (goodO o)) ∧ Gw W w') := fun W => rGood_c o W
  have HAt : Hid (∀ W, Below w.heap.size w W → Calls Tryz.prog 52 #[.pointer (some ⟨wb, 0, none⟩), .int .u64 o.id] W fun e w' => e = .returned (.int .i64 (atI o.id M)) ∧ w' = W) := fun W hW => rAt_c wb o.id M W (HH.out W hW) hn
  obtain ⟨x0, x1, x2, x3, x4, x5⟩ := six_of hO0
  obtain ⟨ob, hob⟩ : ∃ ob, w.heap.size = ob := ⟨_, rfl⟩
  rw [hob] at hO0 x0 x1 x2 x3 x4 x5 hwb
  have HOB := Lib.hid (And.intro hob hwb)
  have HB0' := Lib.hid B0
  rw [hg] at HG
  clear hcl hrw hwb B0
  go_enter Tryz.func24, Tryz.ntmps24
  go_wp2_with (first | ((with_reducible refine (HG.out _).mono ?_); rintro e w1 ⟨rfl, k1⟩; have hO1 : Cl 49 w1 ob (OC o) := hO0.gw k1; have HB1 : Hid (Below w.heap.size w w1) := HB0'.out.trans (k1.b.mono HB0'.out.size); obtain ⟨y0, y1, y2, y3, y4, y5⟩ := six_of hO1; clear x0 x1 x2 x3 x4 x5 HG HB0' k1 hO0))
  go_ret
  exact ⟨2, M, rfl, Lib.hid ⟨HH.out _ HB1.out, Fr.of_below HB1.out, .inl ⟨hg, rfl, rfl⟩⟩⟩
theorem radd_there (wb : Nat) (M : List Od) (o : Od) (w : World) (H : RB w wb M) (hn : M.length ≤ 1000) (hg : goodO o = true) (x : Od) (hx : x ∈ M) (hxi : x.id = o.id) :
    Calls Tryz.prog 24 #[.pointer (some ⟨wb, 0, none⟩), (.agg #[.int .u64 o.id, .int .i64 o.acc, .int .i64 o.side, .int .i64 o.price, .int .i64 o.qty, .int .u64 o.seq])] w fun e w' => ∃ c M', e = .returned (.int .i64 c) ∧ Hid (RAdd w w' wb M M' o c) := by
  have mixed : Tryz.prog.follows .mixedOrders = true := by kernel_rfl
  obtain ⟨A, c, hcl, hrw⟩ := H
  have HH : Hid (∀ W, Below w.heap.size w W → RB W wb M) := fun W hW => ⟨A, c, (hW.block _ (blk_lt hcl)).trans hcl, own_low hrw hW⟩
  have HN := Lib.hid hn
  have HC0 : Hid (∀ W, Below w.heap.size w W → W.cell? ⟨wb, 0, none⟩ = some (.slice A M.length c)) := fun W hW => (Cl.c (T := 46) ((hW.block _ (blk_lt hcl)).trans hcl) 0).trans rfl
  have HB0 : Hid (∀ W, Below w.heap.size w W → Cl 46 W wb #[.slice A M.length c]) := fun W hW => (hW.block _ (blk_lt hcl)).trans hcl
  have HR0 : Hid (∀ W, Below w.heap.size w W → W.ownsRow 0 49 6 (.slice A M.length c) M.length (ol M)) := fun W hW => own_low hrw hW
  have hwb := blk_lt hcl
  obtain ⟨w0, hw0⟩ : ∃ w0, w.alloc (.cells #[.int .u64 o.id, .int .i64 o.acc, .int .i64 o.side, .int .i64 o.price, .int .i64 o.qty, .int .u64 o.seq] 49) = w0 := ⟨_, rfl⟩
  have B0 : Below w.heap.size w w0 := by rw [← hw0]; exact (Below.refl _ _).alloc (Nat.le_refl _) _
  have hO0 : Cl 49 w0 w.heap.size (OC o) := by rw [← hw0]; exact hd_last rfl
  have HG : Hid (∀ W, Calls Tryz.prog 46 #[(.agg #[.int .u64 o.id, .int .i64 o.acc, .int .i64 o.side, .int .i64 o.price, .int .i64 o.qty, .int .u64 o.seq])] W fun e w' => e = .returned (.bool (goodO o)) ∧ Gw W w') := fun W => rGood_c o W
  have HAt : Hid (∀ W, Below w.heap.size w W → Calls Tryz.prog 52 #[.pointer (some ⟨wb, 0, none⟩), .int .u64 o.id] W fun e w' => e = .returned (.int .i64 (atI o.id M)) ∧ w' = W) := fun W hW => rAt_c wb o.id M W (HH.out W hW) hn
  obtain ⟨x0, x1, x2, x3, x4, x5⟩ := six_of hO0
  obtain ⟨ob, hob⟩ : ∃ ob, w.heap.size = ob := ⟨_, rfl⟩
  rw [hob] at hO0 x0 x1 x2 x3 x4 x5 hwb
  have HOB := Lib.hid (And.intro hob hwb)
  have HB0' := Lib.hid B0
  rw [hg] at HG
  have hi := idx_some hx hxi
  have ha : atI o.id M = ((idxN o.id M : Nat) : Int) := by unfold atI; rw [if_pos hi]
  rw [ha] at HAt
  obtain ⟨i, hi'⟩ : ∃ i, idxN o.id M = i := ⟨_, rfl⟩
  rw [hi'] at HAt
  clear hi ha hi'
  clear hcl hrw hwb B0
  go_enter Tryz.func24, Tryz.ntmps24
  go_wp2_with (first | ((with_reducible refine (HG.out _).mono ?_); rintro e w1 ⟨rfl, k1⟩; have hO1 : Cl 49 w1 ob (OC o) := hO0.gw k1; have HB1 : Hid (Below w.heap.size w w1) := HB0'.out.trans (k1.b.mono HB0'.out.size); obtain ⟨y0, y1, y2, y3, y4, y5⟩ := six_of hO1; clear x0 x1 x2 x3 x4 x5 HG HB0' k1 hO0) | ((with_reducible refine (HAt.out _ HB1.out).mono ?_); rintro e w2 ⟨rfl, hw2⟩; have hw3 := hw2.symm; subst hw3; clear HAt))
  go_ret
  exact ⟨52, M, rfl, Lib.hid ⟨HH.out _ HB1.out, Fr.of_below HB1.out, .inr (.inl ⟨hg, rfl, ⟨x, hx, hxi⟩, rfl⟩)⟩⟩
theorem radd_full (wb : Nat) (M : List Od) (o : Od) (w : World) (H : RB w wb M) (hn : M.length ≤ 1000) (hg : goodO o = true) (hid : ∀ x ∈ M, ¬ x.id = o.id) (hl : 64 ≤ M.length) :
    Calls Tryz.prog 24 #[.pointer (some ⟨wb, 0, none⟩), (.agg #[.int .u64 o.id, .int .i64 o.acc, .int .i64 o.side, .int .i64 o.price, .int .i64 o.qty, .int .u64 o.seq])] w fun e w' => ∃ c M', e = .returned (.int .i64 c) ∧ Hid (RAdd w w' wb M M' o c) := by
  have mixed : Tryz.prog.follows .mixedOrders = true := by kernel_rfl
  obtain ⟨A, c, hcl, hrw⟩ := H
  have HH : Hid (∀ W, Below w.heap.size w W → RB W wb M) := fun W hW => ⟨A, c, (hW.block _ (blk_lt hcl)).trans hcl, own_low hrw hW⟩
  have HN := Lib.hid hn
  have HC0 : Hid (∀ W, Below w.heap.size w W → W.cell? ⟨wb, 0, none⟩ = some (.slice A M.length c)) := fun W hW => (Cl.c (T := 46) ((hW.block _ (blk_lt hcl)).trans hcl) 0).trans rfl
  have HB0 : Hid (∀ W, Below w.heap.size w W → Cl 46 W wb #[.slice A M.length c]) := fun W hW => (hW.block _ (blk_lt hcl)).trans hcl
  have HR0 : Hid (∀ W, Below w.heap.size w W → W.ownsRow 0 49 6 (.slice A M.length c) M.length (ol M)) := fun W hW => own_low hrw hW
  have hwb := blk_lt hcl
  obtain ⟨w0, hw0⟩ : ∃ w0, w.alloc (.cells #[.int .u64 o.id, .int .i64 o.acc, .int .i64 o.side, .int .i64 o.price, .int .i64 o.qty, .int .u64 o.seq] 49) = w0 := ⟨_, rfl⟩
  have B0 : Below w.heap.size w w0 := by rw [← hw0]; exact (Below.refl _ _).alloc (Nat.le_refl _) _
  have hO0 : Cl 49 w0 w.heap.size (OC o) := by rw [← hw0]; exact hd_last rfl
  have HG : Hid (∀ W, Calls Tryz.prog 46 #[(.agg #[.int .u64 o.id, .int .i64 o.acc, .int .i64 o.side, .int .i64 o.price, .int .i64 o.qty, .int .u64 o.seq])] W fun e w' => e = .returned (.bool (goodO o)) ∧ Gw W w') := fun W => rGood_c o W
  have HAt : Hid (∀ W, Below w.heap.size w W → Calls Tryz.prog 52 #[.pointer (some ⟨wb, 0, none⟩), .int .u64 o.id] W fun e w' => e = .returned (.int .i64 (atI o.id M)) ∧ w' = W) := fun W hW => rAt_c wb o.id M W (HH.out W hW) hn
  obtain ⟨x0, x1, x2, x3, x4, x5⟩ := six_of hO0
  obtain ⟨ob, hob⟩ : ∃ ob, w.heap.size = ob := ⟨_, rfl⟩
  rw [hob] at hO0 x0 x1 x2 x3 x4 x5 hwb
  have HOB := Lib.hid (And.intro hob hwb)
  have HB0' := Lib.hid B0
  rw [hg] at HG
  have ha : atI o.id M = -1 := by unfold atI; rw [idx_none hid, if_neg (Nat.lt_irrefl _)]
  rw [ha] at HAt
  clear ha
  have hlI : (64 : Int) ≤ (M.length : Int) := by omega
  clear hcl hrw hwb B0
  go_enter Tryz.func24, Tryz.ntmps24
  go_wp2_with (first | ((with_reducible refine (HG.out _).mono ?_); rintro e w1 ⟨rfl, k1⟩; have hO1 : Cl 49 w1 ob (OC o) := hO0.gw k1; have HB1 : Hid (Below w.heap.size w w1) := HB0'.out.trans (k1.b.mono HB0'.out.size); obtain ⟨y0, y1, y2, y3, y4, y5⟩ := six_of hO1; clear x0 x1 x2 x3 x4 x5 HG HB0' k1 hO0) | ((with_reducible refine (HAt.out _ HB1.out).mono ?_); rintro e w2 ⟨rfl, hw2⟩; have hw3 := hw2.symm; subst hw3; have zc := HC0.out _ HB1.out; clear HAt))
  go_ret
  exact ⟨50, M, rfl, Lib.hid ⟨HH.out _ HB1.out, Fr.of_below HB1.out, .inr (.inr ⟨hg, hid, .inl ⟨hl, rfl, rfl⟩⟩)⟩⟩
theorem radd_put (wb : Nat) (M : List Od) (o : Od) (w : World) (H : RB w wb M) (hn : M.length ≤ 1000) (hok : ∀ x ∈ M, Od.ok w x) (ho : Od.ok w o) (hg : goodO o = true) (hid : ∀ x ∈ M, ¬ x.id = o.id) (hl : M.length < 64) :
    Calls Tryz.prog 24 #[.pointer (some ⟨wb, 0, none⟩), (.agg #[.int .u64 o.id, .int .i64 o.acc, .int .i64 o.side, .int .i64 o.price, .int .i64 o.qty, .int .u64 o.seq])] w fun e w' => ∃ c M', e = .returned (.int .i64 c) ∧ Hid (RAdd w w' wb M M' o c) := by
  have mixed : Tryz.prog.follows .mixedOrders = true := by kernel_rfl
  obtain ⟨A, c, hcl, hrw⟩ := H
  have HH : Hid (∀ W, Below w.heap.size w W → RB W wb M) := fun W hW => ⟨A, c, (hW.block _ (blk_lt hcl)).trans hcl, own_low hrw hW⟩
  have HN := Lib.hid hn
  have HC0 : Hid (∀ W, Below w.heap.size w W → W.cell? ⟨wb, 0, none⟩ = some (.slice A M.length c)) := fun W hW => (Cl.c (T := 46) ((hW.block _ (blk_lt hcl)).trans hcl) 0).trans rfl
  have HB0 : Hid (∀ W, Below w.heap.size w W → Cl 46 W wb #[.slice A M.length c]) := fun W hW => (hW.block _ (blk_lt hcl)).trans hcl
  have HR0 : Hid (∀ W, Below w.heap.size w W → W.ownsRow 0 49 6 (.slice A M.length c) M.length (ol M)) := fun W hW => own_low hrw hW
  have hwb := blk_lt hcl
  obtain ⟨w0, hw0⟩ : ∃ w0, w.alloc (.cells #[.int .u64 o.id, .int .i64 o.acc, .int .i64 o.side, .int .i64 o.price, .int .i64 o.qty, .int .u64 o.seq] 49) = w0 := ⟨_, rfl⟩
  have B0 : Below w.heap.size w w0 := by rw [← hw0]; exact (Below.refl _ _).alloc (Nat.le_refl _) _
  have hO0 : Cl 49 w0 w.heap.size (OC o) := by rw [← hw0]; exact hd_last rfl
  have HG : Hid (∀ W, Calls Tryz.prog 46 #[(.agg #[.int .u64 o.id, .int .i64 o.acc, .int .i64 o.side, .int .i64 o.price, .int .i64 o.qty, .int .u64 o.seq])] W fun e w' => e = .returned (.bool (goodO o)) ∧ Gw W w') := fun W => rGood_c o W
  have HAt : Hid (∀ W, Below w.heap.size w W → Calls Tryz.prog 52 #[.pointer (some ⟨wb, 0, none⟩), .int .u64 o.id] W fun e w' => e = .returned (.int .i64 (atI o.id M)) ∧ w' = W) := fun W hW => rAt_c wb o.id M W (HH.out W hW) hn
  obtain ⟨x0, x1, x2, x3, x4, x5⟩ := six_of hO0
  obtain ⟨ob, hob⟩ : ∃ ob, w.heap.size = ob := ⟨_, rfl⟩
  rw [hob] at hO0 x0 x1 x2 x3 x4 x5 hwb
  have HOB := Lib.hid (And.intro hob hwb)
  have HB0' := Lib.hid B0
  rw [hg] at HG
  have ha : atI o.id M = -1 := by unfold atI; rw [idx_none hid, if_neg (Nat.lt_irrefl _)]
  rw [ha] at HAt
  clear ha
  have hlI : ¬ (64 : Int) ≤ (M.length : Int) := by omega
  have hlJ : (M.length : Int) < 64 := by omega
  clear hcl hrw hwb B0
  go_enter Tryz.func24, Tryz.ntmps24
  go_wp2_with (first | ((with_reducible refine (HG.out _).mono ?_); rintro e w1 ⟨rfl, k1⟩; have hO1 : Cl 49 w1 ob (OC o) := hO0.gw k1; have HB1 : Hid (Below w.heap.size w w1) := HB0'.out.trans (k1.b.mono HB0'.out.size); obtain ⟨y0, y1, y2, y3, y4, y5⟩ := six_of hO1; clear x0 x1 x2 x3 x4 x5 HG HB0' k1 hO0) | ((with_reducible refine (HAt.out _ HB1.out).mono ?_); rintro e w2 ⟨rfl, hw2⟩; have hw3 := hw2.symm; subst hw3; have zc := HC0.out _ HB1.out; clear HAt))
  have hO1' : ob < w1.heap.size := blk_lt hO1
  have HCo : Hid (∀ W, Fr (fun k => k = wb) w1 W → Cl 49 W ob (OC o)) := fun W hW => hW.blk hO1 (fun e => by have := HOB.out.2; omega)
  have HCc : Hid (∀ W, Below w1.heap.size w1 W → W.cell? ⟨wb, 0, none⟩ = some (.slice A M.length c)) := fun W hW => HC0.out W (HB1.out.trans (hW.mono HB1.out.size))
  have HCb : Hid (∀ W, Below w1.heap.size w1 W → Cl 46 W wb #[.slice A M.length c]) := fun W hW => HB0.out W (HB1.out.trans (hW.mono HB1.out.size))
  have HRw : Hid (∀ W, Below w1.heap.size w1 W → W.ownsRow 0 49 6 (.slice A M.length c) M.length (ol M)) := fun W hW => HR0.out W (HB1.out.trans (hW.mono HB1.out.size))
  have HS : Hid (∀ A2 c2 W, W.ownsRow w1.heap.size 49 6 (.slice A2 (M.length + 1) c2) (M.length + 1) (ol (M ++ [o])) → Calls Tryz.prog 45 #[.slice A2 (M.length + 1) c2] W fun e w' => ∃ A c, e = .returned (.slice A (M.length + 1) c) ∧ Hid (Below W.heap.size W w' ∧ w'.ownsRow W.heap.size 49 6 (.slice A (M.length + 1) c) (M.length + 1) (ol (sortO (M ++ [o]))))) := fun A2 c2 W hW => by
    have hl1 : (M ++ [o]).length = M.length + 1 := by rw [List.length_append]; rfl
    obtain ⟨A4, c4, hv, _, hod⟩ := own_ods hW (by omega) (fun x hx => by
      rcases List.mem_append.1 hx with h | h
      · exact hok x h
      · rw [List.mem_singleton.1 h]; exact ho)
    injection hv with e1 e2 e3
    subst e1
    have := rSortedO_c A2 (M.length + 1) c2 (M ++ [o]) W hod (by omega)
    rwa [hl1] at this
  clear y0 y1 y2 y3 y4 y5 zc HC0 HB0 HR0 hO1
  have hb0 : Below w1.heap.size w1 w1.drew := (Below.refl _ _).drew
  refine wp_region_held_drew (S := fun W => Fr (fun k => k = wb) w1 W) (by kernel_rfl) (Fr.of_below hb0) (fun hHeld => ?_)
  generalize w1.drew = wd at hb0 hHeld ⊢
  refine tkH 0 ?_ ?_ (by assumption) ?_
  rotate_left
  · (intro w hSw; obtain ⟨hs0, hs1, hs2, hs3, hs4, hs5⟩ := six_of (HCo.out _ hSw); clear hSw; go_simp; try with_reducible rfl)
  (try simp only [zz])
  refine tkH 2 ?_ ?_ (by assumption) ?_
  rotate_left
  · (intro w hSw; obtain ⟨hs0, hs1, hs2, hs3, hs4, hs5⟩ := six_of (HCo.out _ hSw); clear hSw; go_simp; try with_reducible rfl)
  (try simp only [zz])
  refine tkH 3 ?_ ?_ (by assumption) ?_
  rotate_left
  · (intro w hSw; obtain ⟨hs0, hs1, hs2, hs3, hs4, hs5⟩ := six_of (HCo.out _ hSw); clear hSw; go_simp; try with_reducible rfl)
  (try simp only [zz])
  refine tkH 4 ?_ ?_ (by assumption) ?_
  rotate_left
  · (intro w hSw; obtain ⟨hs0, hs1, hs2, hs3, hs4, hs5⟩ := six_of (HCo.out _ hSw); clear hSw; go_simp; try with_reducible rfl)
  (try simp only [zz])
  refine tkH 7 ?_ ?_ (by assumption) ?_
  rotate_left
  · (intro w hSw; obtain ⟨hs0, hs1, hs2, hs3, hs4, hs5⟩ := six_of (HCo.out _ hSw); clear hSw; go_simp; try with_reducible rfl)
  (try simp only [zz])
  refine wpAnyH_ready (rs := [1, 5, 8]) (by kernel_rfl) (by simp) ?_
  refine AllReadyH.cons (o := ⟨some 20, _, _, _, _, _⟩) rfl (fun K hK => ?_) (AllReadyH.cons (o := ⟨some 24, _, _, _, _, _⟩) rfl (fun K hK => ?_) (AllReadyH.cons (o := ⟨some 27, _, _, _, _, _⟩) rfl (fun K hK => ?_) AllReadyH.nil))
  · go_simp
    (try go_wp2_with fail)
    have hb1 : Below w1.heap.size w1 (wd.alloc (.cells #[] 49)) := (hb0).alloc (Below.size hb0) _
    have hE : (wd.alloc (.cells #[] 49)).ownsRow w1.heap.size 49 6 (.slice (some ⟨wd.heap.size, 0, none⟩) 0 0) 0 (ol []) := ⟨rfl, .inr ⟨wd.heap.size, 0, #[], rfl, (by have := Below.size hb0; omega), hd_last (by simp), Nat.le_refl _, Nat.zero_le _, rfl, rfl⟩⟩
    refine hK.out _ _ (by exact Fr.of_below hb1) (fun hHeld => ?_)
    clear hK K
    (try simp only [zz])
    refine wpAnyH_ready (rs := [5, 8]) (by kernel_rfl) (by simp) ?_
    refine AllReadyH.cons (o := ⟨some 24, _, _, _, _, _⟩) rfl (fun K hK => ?_) (AllReadyH.cons (o := ⟨some 27, _, _, _, _, _⟩) rfl (fun K hK => ?_) AllReadyH.nil)
    · have zc := HCc.out _ hb1
      go_simp
      (try go_wp2_with fail)
      clear zc
      have hb2 := hb1
      refine hK.out _ _ (by exact Fr.of_below hb2) (fun hHeld => ?_)
      clear hK K
      (try simp only [zz])
      refine wpAnyH_ready (rs := [6, 8]) (by kernel_rfl) (by simp) ?_
      refine AllReadyH.cons (o := ⟨some 25, _, _, _, _, _⟩) rfl (fun K hK => ?_) (AllReadyH.cons (o := ⟨some 27, _, _, _, _, _⟩) rfl (fun K hK => ?_) AllReadyH.nil)
      · obtain ⟨v1, y1, hr1, hA, hg1, _⟩ := run_app (wd.alloc (.cells #[] 49)) w1.heap.size 29 _ 0 (ol []) hE _ _ _ _ (HRw.out _ hb2) (by have := HN.out; omega) (Below.size hb2)
        rw [Nat.zero_add, show ol [] ++ ol M = ol M from rfl] at hA
        refine step_append rfl _ _ 29 rfl (.slice (some ⟨wd.heap.size, 0, none⟩) 0 0) (.slice A M.length c) rfl rfl hr1 ?_
        have hb3 : Below w1.heap.size w1 y1 := below_own hb2 hE hg1
        refine hK.out _ _ (by exact Fr.of_below hb3) (fun hHeld => ?_)
        clear hK K
        (try simp only [zz])
        refine rdH 8 (fun K hK => ?_)
        go_simp
        (try go_wp2_with fail)
        have hb4 : Below w1.heap.size w1 (y1.alloc (.cells (OC o) 49)) := (hb3).alloc (Below.size hb3) _
        have hV : Cl 49 (y1.alloc (.cells (OC o) 49)) (y1.heap.size) (OC o) := hd_last (by simp)
        replace hA := hA.alloc (.cells (OC o) 49)
        refine hK.out _ _ (by exact Fr.of_below hb4) (fun hHeld => ?_)
        clear hK K
        (try simp only [zz])
        refine rdH 9 (fun K hK => ?_)
        obtain ⟨v2, y2, hr2, hA2, hg2, _⟩ := run_app (y1.alloc (.cells (OC o) 49)) w1.heap.size 29 v1 M.length (ol M) hA (some ⟨y1.heap.size, 0, none⟩) 1 1 [o] (own_one hV) (by have := HN.out; omega) (Below.size hb4)
        refine step_append rfl _ _ 29 rfl v1 (.slice (some ⟨y1.heap.size, 0, none⟩) 1 1) rfl rfl hr2 ?_
        have hbb : Below w1.heap.size w1 y2 := below_own hb4 hA hg2
        obtain ⟨A2, c2, rfl, _⟩ := own_que2 hA2
        rw [← ol_append] at hA2
        refine hK.out _ _ (by exact Fr.of_below hbb) (fun hHeld => ?_)
        clear hK K
        (try simp only [zz])
        refine rdH 10 (fun K hK => ?_)
        go_simp
        refine (HS.out _ _ _ hA2).mono ?_
        rintro e y3 ⟨A3, c3, rfl, hb3⟩
        have hbc : Below w1.heap.size w1 y3 := hbb.trans (hb3.out.1.mono (Below.size hbb))
        refine hK.out _ _ (by exact Fr.of_below hbc) (fun hHeld => ?_)
        clear hK K
        (try simp only [zz])
        refine tkH 11 ?_ ?_ (by assumption) ?_
        rotate_left
        · (intro w hSw; obtain ⟨hs0, hs1, hs2, hs3, hs4, hs5⟩ := six_of (HCo.out _ hSw); clear hSw; go_simp; try with_reducible rfl)
        (try simp only [zz])
        refine tkH 12 ?_ ?_ (by assumption) ?_
        rotate_left
        · (intro w hSw; obtain ⟨hs0, hs1, hs2, hs3, hs4, hs5⟩ := six_of (HCo.out _ hSw); clear hSw; go_simp; try with_reducible rfl)
        (try simp only [zz])
        refine rdH 13 (fun K hK => ?_)
        have zc := HCc.out _ hbc
        have zf := (HCb.out _ hbc).f (k := 0)
        go_simp
        (try go_wp2_with fail)
        refine hK.out _ _ (by exact (Fr.of_below hbc : Fr (fun k => k = wb) w1 y3).set (p := ⟨wb, 0, none⟩) (.inl rfl) _) (fun hHeld => ?_)
        clear hK K
        (try simp only [zz])
        refine wpAnyH_done (by kernel_rfl) ?_ _
        have hF := Lib.hid (radd_end (HCb.out _ hbc) hb3.out.2 HB1.out hbc)
        clear hA2 hHeld zc zf hbb hb3
        go_wp2_with fail
        go_ret
        exact ⟨0, _, rfl, Lib.hid ⟨hF.out.1, hF.out.2, .inr (.inr ⟨hg, hid, .inr ⟨hl, rfl, rfl⟩⟩)⟩⟩
      · go_simp
        (try go_wp2_with fail)
        have hb3 : Below w1.heap.size w1 ((wd.alloc (.cells #[] 49)).alloc (.cells (OC o) 49)) := (hb2).alloc (Below.size hb2) _
        have hV : Cl 49 ((wd.alloc (.cells #[] 49)).alloc (.cells (OC o) 49)) (wd.heap.size + 1) (OC o) := hd_last (by simp)
        have hve : wd.heap.size + 1 ≠ wd.heap.size := (by have h := (own_lt hE _ rfl).2; simp only [World.size_alloc] at h; omega)
        replace hE := hE.alloc (.cells (OC o) 49)
        refine hK.out _ _ (by exact Fr.of_below hb3) (fun hHeld => ?_)
        clear hK K
        (try simp only [zz])
        refine rdH 6 (fun K hK => ?_)
        obtain ⟨v1, y1, hr1, hA, hg1, _⟩ := run_app ((wd.alloc (.cells #[] 49)).alloc (.cells (OC o) 49)) w1.heap.size 29 _ 0 (ol []) hE _ _ _ _ (HRw.out _ hb3) (by have := HN.out; omega) (Below.size hb3)
        rw [Nat.zero_add, show ol [] ++ ol M = ol M from rfl] at hA
        refine step_append rfl _ _ 29 rfl (.slice (some ⟨wd.heap.size, 0, none⟩) 0 0) (.slice A M.length c) rfl rfl hr1 ?_
        have hb4 : Below w1.heap.size w1 y1 := below_own hb3 hE hg1
        replace hV : Cl 49 y1 (wd.heap.size + 1) (OC o) := (hg1.block _ (blk_lt hV) (fun e => hve (Option.some.inj e))).trans hV
        refine hK.out _ _ (by exact Fr.of_below hb4) (fun hHeld => ?_)
        clear hK K
        (try simp only [zz])
        refine rdH 9 (fun K hK => ?_)
        obtain ⟨v2, y2, hr2, hA2, hg2, _⟩ := run_app y1 w1.heap.size 29 v1 M.length (ol M) hA (some ⟨wd.heap.size + 1, 0, none⟩) 1 1 [o] (own_one hV) (by have := HN.out; omega) (Below.size hb4)
        refine step_append rfl _ _ 29 rfl v1 (.slice (some ⟨wd.heap.size + 1, 0, none⟩) 1 1) rfl rfl hr2 ?_
        have hbb : Below w1.heap.size w1 y2 := below_own hb4 hA hg2
        obtain ⟨A2, c2, rfl, _⟩ := own_que2 hA2
        rw [← ol_append] at hA2
        refine hK.out _ _ (by exact Fr.of_below hbb) (fun hHeld => ?_)
        clear hK K
        (try simp only [zz])
        refine rdH 10 (fun K hK => ?_)
        go_simp
        refine (HS.out _ _ _ hA2).mono ?_
        rintro e y3 ⟨A3, c3, rfl, hb3⟩
        have hbc : Below w1.heap.size w1 y3 := hbb.trans (hb3.out.1.mono (Below.size hbb))
        refine hK.out _ _ (by exact Fr.of_below hbc) (fun hHeld => ?_)
        clear hK K
        (try simp only [zz])
        refine tkH 11 ?_ ?_ (by assumption) ?_
        rotate_left
        · (intro w hSw; obtain ⟨hs0, hs1, hs2, hs3, hs4, hs5⟩ := six_of (HCo.out _ hSw); clear hSw; go_simp; try with_reducible rfl)
        (try simp only [zz])
        refine tkH 12 ?_ ?_ (by assumption) ?_
        rotate_left
        · (intro w hSw; obtain ⟨hs0, hs1, hs2, hs3, hs4, hs5⟩ := six_of (HCo.out _ hSw); clear hSw; go_simp; try with_reducible rfl)
        (try simp only [zz])
        refine rdH 13 (fun K hK => ?_)
        have zc := HCc.out _ hbc
        have zf := (HCb.out _ hbc).f (k := 0)
        go_simp
        (try go_wp2_with fail)
        refine hK.out _ _ (by exact (Fr.of_below hbc : Fr (fun k => k = wb) w1 y3).set (p := ⟨wb, 0, none⟩) (.inl rfl) _) (fun hHeld => ?_)
        clear hK K
        (try simp only [zz])
        refine wpAnyH_done (by kernel_rfl) ?_ _
        have hF := Lib.hid (radd_end (HCb.out _ hbc) hb3.out.2 HB1.out hbc)
        clear hA2 hHeld zc zf hbb hb3
        go_wp2_with fail
        go_ret
        exact ⟨0, _, rfl, Lib.hid ⟨hF.out.1, hF.out.2, .inr (.inr ⟨hg, hid, .inr ⟨hl, rfl, rfl⟩⟩)⟩⟩
    · go_simp
      (try go_wp2_with fail)
      have hb2 : Below w1.heap.size w1 ((wd.alloc (.cells #[] 49)).alloc (.cells (OC o) 49)) := (hb1).alloc (Below.size hb1) _
      have hV : Cl 49 ((wd.alloc (.cells #[] 49)).alloc (.cells (OC o) 49)) (wd.heap.size + 1) (OC o) := hd_last (by simp)
      have hve : wd.heap.size + 1 ≠ wd.heap.size := (by have h := (own_lt hE _ rfl).2; simp only [World.size_alloc] at h; omega)
      replace hE := hE.alloc (.cells (OC o) 49)
      refine hK.out _ _ (by exact Fr.of_below hb2) (fun hHeld => ?_)
      clear hK K
      (try simp only [zz])
      refine rdH 5 (fun K hK => ?_)
      have zc := HCc.out _ hb2
      go_simp
      (try go_wp2_with fail)
      clear zc
      have hb3 := hb2
      refine hK.out _ _ (by exact Fr.of_below hb3) (fun hHeld => ?_)
      clear hK K
      (try simp only [zz])
      refine rdH 6 (fun K hK => ?_)
      obtain ⟨v1, y1, hr1, hA, hg1, _⟩ := run_app ((wd.alloc (.cells #[] 49)).alloc (.cells (OC o) 49)) w1.heap.size 29 _ 0 (ol []) hE _ _ _ _ (HRw.out _ hb3) (by have := HN.out; omega) (Below.size hb3)
      rw [Nat.zero_add, show ol [] ++ ol M = ol M from rfl] at hA
      refine step_append rfl _ _ 29 rfl (.slice (some ⟨wd.heap.size, 0, none⟩) 0 0) (.slice A M.length c) rfl rfl hr1 ?_
      have hb4 : Below w1.heap.size w1 y1 := below_own hb3 hE hg1
      replace hV : Cl 49 y1 (wd.heap.size + 1) (OC o) := (hg1.block _ (blk_lt hV) (fun e => hve (Option.some.inj e))).trans hV
      refine hK.out _ _ (by exact Fr.of_below hb4) (fun hHeld => ?_)
      clear hK K
      (try simp only [zz])
      refine rdH 9 (fun K hK => ?_)
      obtain ⟨v2, y2, hr2, hA2, hg2, _⟩ := run_app y1 w1.heap.size 29 v1 M.length (ol M) hA (some ⟨wd.heap.size + 1, 0, none⟩) 1 1 [o] (own_one hV) (by have := HN.out; omega) (Below.size hb4)
      refine step_append rfl _ _ 29 rfl v1 (.slice (some ⟨wd.heap.size + 1, 0, none⟩) 1 1) rfl rfl hr2 ?_
      have hbb : Below w1.heap.size w1 y2 := below_own hb4 hA hg2
      obtain ⟨A2, c2, rfl, _⟩ := own_que2 hA2
      rw [← ol_append] at hA2
      refine hK.out _ _ (by exact Fr.of_below hbb) (fun hHeld => ?_)
      clear hK K
      (try simp only [zz])
      refine rdH 10 (fun K hK => ?_)
      go_simp
      refine (HS.out _ _ _ hA2).mono ?_
      rintro e y3 ⟨A3, c3, rfl, hb3⟩
      have hbc : Below w1.heap.size w1 y3 := hbb.trans (hb3.out.1.mono (Below.size hbb))
      refine hK.out _ _ (by exact Fr.of_below hbc) (fun hHeld => ?_)
      clear hK K
      (try simp only [zz])
      refine tkH 11 ?_ ?_ (by assumption) ?_
      rotate_left
      · (intro w hSw; obtain ⟨hs0, hs1, hs2, hs3, hs4, hs5⟩ := six_of (HCo.out _ hSw); clear hSw; go_simp; try with_reducible rfl)
      (try simp only [zz])
      refine tkH 12 ?_ ?_ (by assumption) ?_
      rotate_left
      · (intro w hSw; obtain ⟨hs0, hs1, hs2, hs3, hs4, hs5⟩ := six_of (HCo.out _ hSw); clear hSw; go_simp; try with_reducible rfl)
      (try simp only [zz])
      refine rdH 13 (fun K hK => ?_)
      have zc := HCc.out _ hbc
      have zf := (HCb.out _ hbc).f (k := 0)
      go_simp
      (try go_wp2_with fail)
      refine hK.out _ _ (by exact (Fr.of_below hbc : Fr (fun k => k = wb) w1 y3).set (p := ⟨wb, 0, none⟩) (.inl rfl) _) (fun hHeld => ?_)
      clear hK K
      (try simp only [zz])
      refine wpAnyH_done (by kernel_rfl) ?_ _
      have hF := Lib.hid (radd_end (HCb.out _ hbc) hb3.out.2 HB1.out hbc)
      clear hA2 hHeld zc zf hbb hb3
      go_wp2_with fail
      go_ret
      exact ⟨0, _, rfl, Lib.hid ⟨hF.out.1, hF.out.2, .inr (.inr ⟨hg, hid, .inr ⟨hl, rfl, rfl⟩⟩)⟩⟩
  · have zc := HCc.out _ hb0
    go_simp
    (try go_wp2_with fail)
    clear zc
    have hb1 := hb0
    refine hK.out _ _ (by exact Fr.of_below hb1) (fun hHeld => ?_)
    clear hK K
    (try simp only [zz])
    refine wpAnyH_ready (rs := [1, 8]) (by kernel_rfl) (by simp) ?_
    refine AllReadyH.cons (o := ⟨some 20, _, _, _, _, _⟩) rfl (fun K hK => ?_) (AllReadyH.cons (o := ⟨some 27, _, _, _, _, _⟩) rfl (fun K hK => ?_) AllReadyH.nil)
    · go_simp
      (try go_wp2_with fail)
      have hb2 : Below w1.heap.size w1 (wd.alloc (.cells #[] 49)) := (hb1).alloc (Below.size hb1) _
      have hE : (wd.alloc (.cells #[] 49)).ownsRow w1.heap.size 49 6 (.slice (some ⟨wd.heap.size, 0, none⟩) 0 0) 0 (ol []) := ⟨rfl, .inr ⟨wd.heap.size, 0, #[], rfl, (by have := Below.size hb0; omega), hd_last (by simp), Nat.le_refl _, Nat.zero_le _, rfl, rfl⟩⟩
      refine hK.out _ _ (by exact Fr.of_below hb2) (fun hHeld => ?_)
      clear hK K
      (try simp only [zz])
      refine wpAnyH_ready (rs := [6, 8]) (by kernel_rfl) (by simp) ?_
      refine AllReadyH.cons (o := ⟨some 25, _, _, _, _, _⟩) rfl (fun K hK => ?_) (AllReadyH.cons (o := ⟨some 27, _, _, _, _, _⟩) rfl (fun K hK => ?_) AllReadyH.nil)
      · obtain ⟨v1, y1, hr1, hA, hg1, _⟩ := run_app (wd.alloc (.cells #[] 49)) w1.heap.size 29 _ 0 (ol []) hE _ _ _ _ (HRw.out _ hb2) (by have := HN.out; omega) (Below.size hb2)
        rw [Nat.zero_add, show ol [] ++ ol M = ol M from rfl] at hA
        refine step_append rfl _ _ 29 rfl (.slice (some ⟨wd.heap.size, 0, none⟩) 0 0) (.slice A M.length c) rfl rfl hr1 ?_
        have hb3 : Below w1.heap.size w1 y1 := below_own hb2 hE hg1
        refine hK.out _ _ (by exact Fr.of_below hb3) (fun hHeld => ?_)
        clear hK K
        (try simp only [zz])
        refine rdH 8 (fun K hK => ?_)
        go_simp
        (try go_wp2_with fail)
        have hb4 : Below w1.heap.size w1 (y1.alloc (.cells (OC o) 49)) := (hb3).alloc (Below.size hb3) _
        have hV : Cl 49 (y1.alloc (.cells (OC o) 49)) (y1.heap.size) (OC o) := hd_last (by simp)
        replace hA := hA.alloc (.cells (OC o) 49)
        refine hK.out _ _ (by exact Fr.of_below hb4) (fun hHeld => ?_)
        clear hK K
        (try simp only [zz])
        refine rdH 9 (fun K hK => ?_)
        obtain ⟨v2, y2, hr2, hA2, hg2, _⟩ := run_app (y1.alloc (.cells (OC o) 49)) w1.heap.size 29 v1 M.length (ol M) hA (some ⟨y1.heap.size, 0, none⟩) 1 1 [o] (own_one hV) (by have := HN.out; omega) (Below.size hb4)
        refine step_append rfl _ _ 29 rfl v1 (.slice (some ⟨y1.heap.size, 0, none⟩) 1 1) rfl rfl hr2 ?_
        have hbb : Below w1.heap.size w1 y2 := below_own hb4 hA hg2
        obtain ⟨A2, c2, rfl, _⟩ := own_que2 hA2
        rw [← ol_append] at hA2
        refine hK.out _ _ (by exact Fr.of_below hbb) (fun hHeld => ?_)
        clear hK K
        (try simp only [zz])
        refine rdH 10 (fun K hK => ?_)
        go_simp
        refine (HS.out _ _ _ hA2).mono ?_
        rintro e y3 ⟨A3, c3, rfl, hb3⟩
        have hbc : Below w1.heap.size w1 y3 := hbb.trans (hb3.out.1.mono (Below.size hbb))
        refine hK.out _ _ (by exact Fr.of_below hbc) (fun hHeld => ?_)
        clear hK K
        (try simp only [zz])
        refine tkH 11 ?_ ?_ (by assumption) ?_
        rotate_left
        · (intro w hSw; obtain ⟨hs0, hs1, hs2, hs3, hs4, hs5⟩ := six_of (HCo.out _ hSw); clear hSw; go_simp; try with_reducible rfl)
        (try simp only [zz])
        refine tkH 12 ?_ ?_ (by assumption) ?_
        rotate_left
        · (intro w hSw; obtain ⟨hs0, hs1, hs2, hs3, hs4, hs5⟩ := six_of (HCo.out _ hSw); clear hSw; go_simp; try with_reducible rfl)
        (try simp only [zz])
        refine rdH 13 (fun K hK => ?_)
        have zc := HCc.out _ hbc
        have zf := (HCb.out _ hbc).f (k := 0)
        go_simp
        (try go_wp2_with fail)
        refine hK.out _ _ (by exact (Fr.of_below hbc : Fr (fun k => k = wb) w1 y3).set (p := ⟨wb, 0, none⟩) (.inl rfl) _) (fun hHeld => ?_)
        clear hK K
        (try simp only [zz])
        refine wpAnyH_done (by kernel_rfl) ?_ _
        have hF := Lib.hid (radd_end (HCb.out _ hbc) hb3.out.2 HB1.out hbc)
        clear hA2 hHeld zc zf hbb hb3
        go_wp2_with fail
        go_ret
        exact ⟨0, _, rfl, Lib.hid ⟨hF.out.1, hF.out.2, .inr (.inr ⟨hg, hid, .inr ⟨hl, rfl, rfl⟩⟩)⟩⟩
      · go_simp
        (try go_wp2_with fail)
        have hb3 : Below w1.heap.size w1 ((wd.alloc (.cells #[] 49)).alloc (.cells (OC o) 49)) := (hb2).alloc (Below.size hb2) _
        have hV : Cl 49 ((wd.alloc (.cells #[] 49)).alloc (.cells (OC o) 49)) (wd.heap.size + 1) (OC o) := hd_last (by simp)
        have hve : wd.heap.size + 1 ≠ wd.heap.size := (by have h := (own_lt hE _ rfl).2; simp only [World.size_alloc] at h; omega)
        replace hE := hE.alloc (.cells (OC o) 49)
        refine hK.out _ _ (by exact Fr.of_below hb3) (fun hHeld => ?_)
        clear hK K
        (try simp only [zz])
        refine rdH 6 (fun K hK => ?_)
        obtain ⟨v1, y1, hr1, hA, hg1, _⟩ := run_app ((wd.alloc (.cells #[] 49)).alloc (.cells (OC o) 49)) w1.heap.size 29 _ 0 (ol []) hE _ _ _ _ (HRw.out _ hb3) (by have := HN.out; omega) (Below.size hb3)
        rw [Nat.zero_add, show ol [] ++ ol M = ol M from rfl] at hA
        refine step_append rfl _ _ 29 rfl (.slice (some ⟨wd.heap.size, 0, none⟩) 0 0) (.slice A M.length c) rfl rfl hr1 ?_
        have hb4 : Below w1.heap.size w1 y1 := below_own hb3 hE hg1
        replace hV : Cl 49 y1 (wd.heap.size + 1) (OC o) := (hg1.block _ (blk_lt hV) (fun e => hve (Option.some.inj e))).trans hV
        refine hK.out _ _ (by exact Fr.of_below hb4) (fun hHeld => ?_)
        clear hK K
        (try simp only [zz])
        refine rdH 9 (fun K hK => ?_)
        obtain ⟨v2, y2, hr2, hA2, hg2, _⟩ := run_app y1 w1.heap.size 29 v1 M.length (ol M) hA (some ⟨wd.heap.size + 1, 0, none⟩) 1 1 [o] (own_one hV) (by have := HN.out; omega) (Below.size hb4)
        refine step_append rfl _ _ 29 rfl v1 (.slice (some ⟨wd.heap.size + 1, 0, none⟩) 1 1) rfl rfl hr2 ?_
        have hbb : Below w1.heap.size w1 y2 := below_own hb4 hA hg2
        obtain ⟨A2, c2, rfl, _⟩ := own_que2 hA2
        rw [← ol_append] at hA2
        refine hK.out _ _ (by exact Fr.of_below hbb) (fun hHeld => ?_)
        clear hK K
        (try simp only [zz])
        refine rdH 10 (fun K hK => ?_)
        go_simp
        refine (HS.out _ _ _ hA2).mono ?_
        rintro e y3 ⟨A3, c3, rfl, hb3⟩
        have hbc : Below w1.heap.size w1 y3 := hbb.trans (hb3.out.1.mono (Below.size hbb))
        refine hK.out _ _ (by exact Fr.of_below hbc) (fun hHeld => ?_)
        clear hK K
        (try simp only [zz])
        refine tkH 11 ?_ ?_ (by assumption) ?_
        rotate_left
        · (intro w hSw; obtain ⟨hs0, hs1, hs2, hs3, hs4, hs5⟩ := six_of (HCo.out _ hSw); clear hSw; go_simp; try with_reducible rfl)
        (try simp only [zz])
        refine tkH 12 ?_ ?_ (by assumption) ?_
        rotate_left
        · (intro w hSw; obtain ⟨hs0, hs1, hs2, hs3, hs4, hs5⟩ := six_of (HCo.out _ hSw); clear hSw; go_simp; try with_reducible rfl)
        (try simp only [zz])
        refine rdH 13 (fun K hK => ?_)
        have zc := HCc.out _ hbc
        have zf := (HCb.out _ hbc).f (k := 0)
        go_simp
        (try go_wp2_with fail)
        refine hK.out _ _ (by exact (Fr.of_below hbc : Fr (fun k => k = wb) w1 y3).set (p := ⟨wb, 0, none⟩) (.inl rfl) _) (fun hHeld => ?_)
        clear hK K
        (try simp only [zz])
        refine wpAnyH_done (by kernel_rfl) ?_ _
        have hF := Lib.hid (radd_end (HCb.out _ hbc) hb3.out.2 HB1.out hbc)
        clear hA2 hHeld zc zf hbb hb3
        go_wp2_with fail
        go_ret
        exact ⟨0, _, rfl, Lib.hid ⟨hF.out.1, hF.out.2, .inr (.inr ⟨hg, hid, .inr ⟨hl, rfl, rfl⟩⟩)⟩⟩
    · go_simp
      (try go_wp2_with fail)
      have hb2 : Below w1.heap.size w1 (wd.alloc (.cells (OC o) 49)) := (hb1).alloc (Below.size hb1) _
      have hV : Cl 49 (wd.alloc (.cells (OC o) 49)) (wd.heap.size) (OC o) := hd_last (by simp)
      refine hK.out _ _ (by exact Fr.of_below hb2) (fun hHeld => ?_)
      clear hK K
      (try simp only [zz])
      refine rdH 1 (fun K hK => ?_)
      go_simp
      (try go_wp2_with fail)
      have hb3 : Below w1.heap.size w1 ((wd.alloc (.cells (OC o) 49)).alloc (.cells #[] 49)) := (hb2).alloc (Below.size hb2) _
      have hE : ((wd.alloc (.cells (OC o) 49)).alloc (.cells #[] 49)).ownsRow w1.heap.size 49 6 (.slice (some ⟨wd.heap.size + 1, 0, none⟩) 0 0) 0 (ol []) := ⟨rfl, .inr ⟨wd.heap.size + 1, 0, #[], rfl, (by have := Below.size hb0; omega), hd_last (by simp), Nat.le_refl _, Nat.zero_le _, rfl, rfl⟩⟩
      have hve : wd.heap.size ≠ wd.heap.size + 1 := (by have h := blk_lt hV; simp only [World.size_alloc] at h; omega)
      replace hV : Cl 49 ((wd.alloc (.cells (OC o) 49)).alloc (.cells #[] 49)) (wd.heap.size) (OC o) := hd_prev (blk_lt hV) hV
      refine hK.out _ _ (by exact Fr.of_below hb3) (fun hHeld => ?_)
      clear hK K
      (try simp only [zz])
      refine rdH 6 (fun K hK => ?_)
      obtain ⟨v1, y1, hr1, hA, hg1, _⟩ := run_app ((wd.alloc (.cells (OC o) 49)).alloc (.cells #[] 49)) w1.heap.size 29 _ 0 (ol []) hE _ _ _ _ (HRw.out _ hb3) (by have := HN.out; omega) (Below.size hb3)
      rw [Nat.zero_add, show ol [] ++ ol M = ol M from rfl] at hA
      refine step_append rfl _ _ 29 rfl (.slice (some ⟨wd.heap.size + 1, 0, none⟩) 0 0) (.slice A M.length c) rfl rfl hr1 ?_
      have hb4 : Below w1.heap.size w1 y1 := below_own hb3 hE hg1
      replace hV : Cl 49 y1 (wd.heap.size) (OC o) := (hg1.block _ (blk_lt hV) (fun e => hve (Option.some.inj e))).trans hV
      refine hK.out _ _ (by exact Fr.of_below hb4) (fun hHeld => ?_)
      clear hK K
      (try simp only [zz])
      refine rdH 9 (fun K hK => ?_)
      obtain ⟨v2, y2, hr2, hA2, hg2, _⟩ := run_app y1 w1.heap.size 29 v1 M.length (ol M) hA (some ⟨wd.heap.size, 0, none⟩) 1 1 [o] (own_one hV) (by have := HN.out; omega) (Below.size hb4)
      refine step_append rfl _ _ 29 rfl v1 (.slice (some ⟨wd.heap.size, 0, none⟩) 1 1) rfl rfl hr2 ?_
      have hbb : Below w1.heap.size w1 y2 := below_own hb4 hA hg2
      obtain ⟨A2, c2, rfl, _⟩ := own_que2 hA2
      rw [← ol_append] at hA2
      refine hK.out _ _ (by exact Fr.of_below hbb) (fun hHeld => ?_)
      clear hK K
      (try simp only [zz])
      refine rdH 10 (fun K hK => ?_)
      go_simp
      refine (HS.out _ _ _ hA2).mono ?_
      rintro e y3 ⟨A3, c3, rfl, hb3⟩
      have hbc : Below w1.heap.size w1 y3 := hbb.trans (hb3.out.1.mono (Below.size hbb))
      refine hK.out _ _ (by exact Fr.of_below hbc) (fun hHeld => ?_)
      clear hK K
      (try simp only [zz])
      refine tkH 11 ?_ ?_ (by assumption) ?_
      rotate_left
      · (intro w hSw; obtain ⟨hs0, hs1, hs2, hs3, hs4, hs5⟩ := six_of (HCo.out _ hSw); clear hSw; go_simp; try with_reducible rfl)
      (try simp only [zz])
      refine tkH 12 ?_ ?_ (by assumption) ?_
      rotate_left
      · (intro w hSw; obtain ⟨hs0, hs1, hs2, hs3, hs4, hs5⟩ := six_of (HCo.out _ hSw); clear hSw; go_simp; try with_reducible rfl)
      (try simp only [zz])
      refine rdH 13 (fun K hK => ?_)
      have zc := HCc.out _ hbc
      have zf := (HCb.out _ hbc).f (k := 0)
      go_simp
      (try go_wp2_with fail)
      refine hK.out _ _ (by exact (Fr.of_below hbc : Fr (fun k => k = wb) w1 y3).set (p := ⟨wb, 0, none⟩) (.inl rfl) _) (fun hHeld => ?_)
      clear hK K
      (try simp only [zz])
      refine wpAnyH_done (by kernel_rfl) ?_ _
      have hF := Lib.hid (radd_end (HCb.out _ hbc) hb3.out.2 HB1.out hbc)
      clear hA2 hHeld zc zf hbb hb3
      go_wp2_with fail
      go_ret
      exact ⟨0, _, rfl, Lib.hid ⟨hF.out.1, hF.out.2, .inr (.inr ⟨hg, hid, .inr ⟨hl, rfl, rfl⟩⟩)⟩⟩
  · go_simp
    (try go_wp2_with fail)
    have hb1 : Below w1.heap.size w1 (wd.alloc (.cells (OC o) 49)) := (hb0).alloc (Below.size hb0) _
    have hV : Cl 49 (wd.alloc (.cells (OC o) 49)) (wd.heap.size) (OC o) := hd_last (by simp)
    refine hK.out _ _ (by exact Fr.of_below hb1) (fun hHeld => ?_)
    clear hK K
    (try simp only [zz])
    refine wpAnyH_ready (rs := [1, 5]) (by kernel_rfl) (by simp) ?_
    refine AllReadyH.cons (o := ⟨some 20, _, _, _, _, _⟩) rfl (fun K hK => ?_) (AllReadyH.cons (o := ⟨some 24, _, _, _, _, _⟩) rfl (fun K hK => ?_) AllReadyH.nil)
    · go_simp
      (try go_wp2_with fail)
      have hb2 : Below w1.heap.size w1 ((wd.alloc (.cells (OC o) 49)).alloc (.cells #[] 49)) := (hb1).alloc (Below.size hb1) _
      have hE : ((wd.alloc (.cells (OC o) 49)).alloc (.cells #[] 49)).ownsRow w1.heap.size 49 6 (.slice (some ⟨wd.heap.size + 1, 0, none⟩) 0 0) 0 (ol []) := ⟨rfl, .inr ⟨wd.heap.size + 1, 0, #[], rfl, (by have := Below.size hb0; omega), hd_last (by simp), Nat.le_refl _, Nat.zero_le _, rfl, rfl⟩⟩
      have hve : wd.heap.size ≠ wd.heap.size + 1 := (by have h := blk_lt hV; simp only [World.size_alloc] at h; omega)
      replace hV : Cl 49 ((wd.alloc (.cells (OC o) 49)).alloc (.cells #[] 49)) (wd.heap.size) (OC o) := hd_prev (blk_lt hV) hV
      refine hK.out _ _ (by exact Fr.of_below hb2) (fun hHeld => ?_)
      clear hK K
      (try simp only [zz])
      refine rdH 5 (fun K hK => ?_)
      have zc := HCc.out _ hb2
      go_simp
      (try go_wp2_with fail)
      clear zc
      have hb3 := hb2
      refine hK.out _ _ (by exact Fr.of_below hb3) (fun hHeld => ?_)
      clear hK K
      (try simp only [zz])
      refine rdH 6 (fun K hK => ?_)
      obtain ⟨v1, y1, hr1, hA, hg1, _⟩ := run_app ((wd.alloc (.cells (OC o) 49)).alloc (.cells #[] 49)) w1.heap.size 29 _ 0 (ol []) hE _ _ _ _ (HRw.out _ hb3) (by have := HN.out; omega) (Below.size hb3)
      rw [Nat.zero_add, show ol [] ++ ol M = ol M from rfl] at hA
      refine step_append rfl _ _ 29 rfl (.slice (some ⟨wd.heap.size + 1, 0, none⟩) 0 0) (.slice A M.length c) rfl rfl hr1 ?_
      have hb4 : Below w1.heap.size w1 y1 := below_own hb3 hE hg1
      replace hV : Cl 49 y1 (wd.heap.size) (OC o) := (hg1.block _ (blk_lt hV) (fun e => hve (Option.some.inj e))).trans hV
      refine hK.out _ _ (by exact Fr.of_below hb4) (fun hHeld => ?_)
      clear hK K
      (try simp only [zz])
      refine rdH 9 (fun K hK => ?_)
      obtain ⟨v2, y2, hr2, hA2, hg2, _⟩ := run_app y1 w1.heap.size 29 v1 M.length (ol M) hA (some ⟨wd.heap.size, 0, none⟩) 1 1 [o] (own_one hV) (by have := HN.out; omega) (Below.size hb4)
      refine step_append rfl _ _ 29 rfl v1 (.slice (some ⟨wd.heap.size, 0, none⟩) 1 1) rfl rfl hr2 ?_
      have hbb : Below w1.heap.size w1 y2 := below_own hb4 hA hg2
      obtain ⟨A2, c2, rfl, _⟩ := own_que2 hA2
      rw [← ol_append] at hA2
      refine hK.out _ _ (by exact Fr.of_below hbb) (fun hHeld => ?_)
      clear hK K
      (try simp only [zz])
      refine rdH 10 (fun K hK => ?_)
      go_simp
      refine (HS.out _ _ _ hA2).mono ?_
      rintro e y3 ⟨A3, c3, rfl, hb3⟩
      have hbc : Below w1.heap.size w1 y3 := hbb.trans (hb3.out.1.mono (Below.size hbb))
      refine hK.out _ _ (by exact Fr.of_below hbc) (fun hHeld => ?_)
      clear hK K
      (try simp only [zz])
      refine tkH 11 ?_ ?_ (by assumption) ?_
      rotate_left
      · (intro w hSw; obtain ⟨hs0, hs1, hs2, hs3, hs4, hs5⟩ := six_of (HCo.out _ hSw); clear hSw; go_simp; try with_reducible rfl)
      (try simp only [zz])
      refine tkH 12 ?_ ?_ (by assumption) ?_
      rotate_left
      · (intro w hSw; obtain ⟨hs0, hs1, hs2, hs3, hs4, hs5⟩ := six_of (HCo.out _ hSw); clear hSw; go_simp; try with_reducible rfl)
      (try simp only [zz])
      refine rdH 13 (fun K hK => ?_)
      have zc := HCc.out _ hbc
      have zf := (HCb.out _ hbc).f (k := 0)
      go_simp
      (try go_wp2_with fail)
      refine hK.out _ _ (by exact (Fr.of_below hbc : Fr (fun k => k = wb) w1 y3).set (p := ⟨wb, 0, none⟩) (.inl rfl) _) (fun hHeld => ?_)
      clear hK K
      (try simp only [zz])
      refine wpAnyH_done (by kernel_rfl) ?_ _
      have hF := Lib.hid (radd_end (HCb.out _ hbc) hb3.out.2 HB1.out hbc)
      clear hA2 hHeld zc zf hbb hb3
      go_wp2_with fail
      go_ret
      exact ⟨0, _, rfl, Lib.hid ⟨hF.out.1, hF.out.2, .inr (.inr ⟨hg, hid, .inr ⟨hl, rfl, rfl⟩⟩)⟩⟩
    · have zc := HCc.out _ hb1
      go_simp
      (try go_wp2_with fail)
      clear zc
      have hb2 := hb1
      refine hK.out _ _ (by exact Fr.of_below hb2) (fun hHeld => ?_)
      clear hK K
      (try simp only [zz])
      refine rdH 1 (fun K hK => ?_)
      go_simp
      (try go_wp2_with fail)
      have hb3 : Below w1.heap.size w1 ((wd.alloc (.cells (OC o) 49)).alloc (.cells #[] 49)) := (hb2).alloc (Below.size hb2) _
      have hE : ((wd.alloc (.cells (OC o) 49)).alloc (.cells #[] 49)).ownsRow w1.heap.size 49 6 (.slice (some ⟨wd.heap.size + 1, 0, none⟩) 0 0) 0 (ol []) := ⟨rfl, .inr ⟨wd.heap.size + 1, 0, #[], rfl, (by have := Below.size hb0; omega), hd_last (by simp), Nat.le_refl _, Nat.zero_le _, rfl, rfl⟩⟩
      have hve : wd.heap.size ≠ wd.heap.size + 1 := (by have h := blk_lt hV; simp only [World.size_alloc] at h; omega)
      replace hV : Cl 49 ((wd.alloc (.cells (OC o) 49)).alloc (.cells #[] 49)) (wd.heap.size) (OC o) := hd_prev (blk_lt hV) hV
      refine hK.out _ _ (by exact Fr.of_below hb3) (fun hHeld => ?_)
      clear hK K
      (try simp only [zz])
      refine rdH 6 (fun K hK => ?_)
      obtain ⟨v1, y1, hr1, hA, hg1, _⟩ := run_app ((wd.alloc (.cells (OC o) 49)).alloc (.cells #[] 49)) w1.heap.size 29 _ 0 (ol []) hE _ _ _ _ (HRw.out _ hb3) (by have := HN.out; omega) (Below.size hb3)
      rw [Nat.zero_add, show ol [] ++ ol M = ol M from rfl] at hA
      refine step_append rfl _ _ 29 rfl (.slice (some ⟨wd.heap.size + 1, 0, none⟩) 0 0) (.slice A M.length c) rfl rfl hr1 ?_
      have hb4 : Below w1.heap.size w1 y1 := below_own hb3 hE hg1
      replace hV : Cl 49 y1 (wd.heap.size) (OC o) := (hg1.block _ (blk_lt hV) (fun e => hve (Option.some.inj e))).trans hV
      refine hK.out _ _ (by exact Fr.of_below hb4) (fun hHeld => ?_)
      clear hK K
      (try simp only [zz])
      refine rdH 9 (fun K hK => ?_)
      obtain ⟨v2, y2, hr2, hA2, hg2, _⟩ := run_app y1 w1.heap.size 29 v1 M.length (ol M) hA (some ⟨wd.heap.size, 0, none⟩) 1 1 [o] (own_one hV) (by have := HN.out; omega) (Below.size hb4)
      refine step_append rfl _ _ 29 rfl v1 (.slice (some ⟨wd.heap.size, 0, none⟩) 1 1) rfl rfl hr2 ?_
      have hbb : Below w1.heap.size w1 y2 := below_own hb4 hA hg2
      obtain ⟨A2, c2, rfl, _⟩ := own_que2 hA2
      rw [← ol_append] at hA2
      refine hK.out _ _ (by exact Fr.of_below hbb) (fun hHeld => ?_)
      clear hK K
      (try simp only [zz])
      refine rdH 10 (fun K hK => ?_)
      go_simp
      refine (HS.out _ _ _ hA2).mono ?_
      rintro e y3 ⟨A3, c3, rfl, hb3⟩
      have hbc : Below w1.heap.size w1 y3 := hbb.trans (hb3.out.1.mono (Below.size hbb))
      refine hK.out _ _ (by exact Fr.of_below hbc) (fun hHeld => ?_)
      clear hK K
      (try simp only [zz])
      refine tkH 11 ?_ ?_ (by assumption) ?_
      rotate_left
      · (intro w hSw; obtain ⟨hs0, hs1, hs2, hs3, hs4, hs5⟩ := six_of (HCo.out _ hSw); clear hSw; go_simp; try with_reducible rfl)
      (try simp only [zz])
      refine tkH 12 ?_ ?_ (by assumption) ?_
      rotate_left
      · (intro w hSw; obtain ⟨hs0, hs1, hs2, hs3, hs4, hs5⟩ := six_of (HCo.out _ hSw); clear hSw; go_simp; try with_reducible rfl)
      (try simp only [zz])
      refine rdH 13 (fun K hK => ?_)
      have zc := HCc.out _ hbc
      have zf := (HCb.out _ hbc).f (k := 0)
      go_simp
      (try go_wp2_with fail)
      refine hK.out _ _ (by exact (Fr.of_below hbc : Fr (fun k => k = wb) w1 y3).set (p := ⟨wb, 0, none⟩) (.inl rfl) _) (fun hHeld => ?_)
      clear hK K
      (try simp only [zz])
      refine wpAnyH_done (by kernel_rfl) ?_ _
      have hF := Lib.hid (radd_end (HCb.out _ hbc) hb3.out.2 HB1.out hbc)
      clear hA2 hHeld zc zf hbb hb3
      go_wp2_with fail
      go_ret
      exact ⟨0, _, rfl, Lib.hid ⟨hF.out.1, hF.out.2, .inr (.inr ⟨hg, hid, .inr ⟨hl, rfl, rfl⟩⟩)⟩⟩
theorem rAdd_c (wb : Nat) (M : List Od) (o : Od) (w : World) (H : RB w wb M) (hn : M.length ≤ 1000) (hok : ∀ x ∈ M, Od.ok w x) (ho : Od.ok w o) :
    Calls Tryz.prog 24 #[.pointer (some ⟨wb, 0, none⟩), (.agg #[.int .u64 o.id, .int .i64 o.acc, .int .i64 o.side, .int .i64 o.price, .int .i64 o.qty, .int .u64 o.seq])] w fun e w' => ∃ c M', e = .returned (.int .i64 c) ∧ Hid (RAdd w w' wb M M' o c) := by
  cases hg : goodO o with
  | false => exact radd_bad wb M o w H hn hg
  | true =>
    by_cases hx : ∃ x ∈ M, x.id = o.id
    · obtain ⟨x, h1, h2⟩ := hx
      exact radd_there wb M o w H hn hg x h1 h2
    · have hid : ∀ x ∈ M, ¬ x.id = o.id := fun x h1 h2 => hx ⟨x, h1, h2⟩
      by_cases hl : 64 ≤ M.length
      · exact radd_full wb M o w H hn hg hid hl
      · exact radd_put wb M o w H hn hok ho hg hid (by omega)

theorem foot_kind {W : World} {b : Option Addr} {m : Option Nat} {s1 s2 : Sd} (H : Bk W b m s1 s2) {k : Nat} (hk : foot b m s1 s2 k) {cs : Array Value} {T : TypeId} (h : W.heap[k]? = some (.cells cs T (0, 0))) : T = 132 ∨ T = 247 ∨ T = 38 := by
  rcases hk with e | e | e | e | ⟨r, hr, e⟩
  · rcases H.shape with ⟨h0, _⟩ | ⟨p, hb, hp⟩
    · rw [h0] at e; cases e
    · rw [hb] at e; injection e with e; injection e with e; subst e
      rw [h] at hp; injection hp with hp; injection hp with _ hp; exact .inl hp
  · obtain ⟨es, clock, hb, _⟩ := H.mp k e
    rw [h] at hb; cases hb
  · obtain ⟨cs', hc⟩ := own_blk H.r1 e
    rw [h] at hc; injection hc with hc; injection hc with _ hc; exact .inr (.inl hc)
  · obtain ⟨cs', hc⟩ := own_blk H.r2 e
    rw [h] at hc; injection hc with hc; injection hc with _ hc; exact .inr (.inl hc)
  · obtain ⟨cs', hc⟩ := own_blk (H.q r hr) e
    rw [h] at hc; injection hc with hc; injection hc with _ hc; exact .inr (.inr hc)
theorem rb_low {W W' : World} {wb : Nat} {M : List Od} (R : RB W wb M) (hb : Below W.heap.size W W') : RB W' wb M := by
  obtain ⟨A, c, hc, hr⟩ := R
  exact ⟨A, c, (hb.block _ (blk_lt hc)).trans hc, own_low hr hb⟩
theorem foot_ne {W : World} {wb : Nat} {M : List Od} {b : Option Addr} {m : Option Nat} {s1 s2 : Sd} (R : RB W wb M) (H : Bk W b m s1 s2) : ∀ k, foot b m s1 s2 k → ¬ k = wb := by
  rintro k hk rfl
  obtain ⟨A, c, hc, _⟩ := R
  rcases foot_kind H hk hc with e | e | e <;> exact absurd e (by decide)
theorem whole_rb {W W' : World} {wb p m : Nat} {M : List Od} {s1 s2 : Sd} (R : RB W wb M) (H : Whole W p m s1 s2) (hf : Fr (fun k => k = wb) W W') : Whole W' p m s1 s2 := H.fr hf (foot_ne R H.bk)
theorem put_sort {w w' : World} {p m : Nat} {s1 s2 s1' s2' : Sd} {o : Od} (h : PutIs w w' p m s1 s2 s1' s2' o) : sortO (bookL s1.rs s2.rs ++ [o]) = bookL s1'.rs s2'.rs :=
  sortO_uniq (h.perm.trans (List.perm_append_comm (l₁ := [o]) (l₂ := bookL s1.rs s2.rs))) h.wh.pw

structure Tri (w W : World) (pa ma : Nat) (a1 a2 : Sd) (pb mb : Nat) (b1 b2 : Sd) (wb : Nat) (M : List Od) : Prop where
  wa : Whole W pa ma a1 a2
  wv : Whole W pb mb b1 b2
  rb : RB W wb M
  be : Below w.heap.size w W
  loa : ∀ k, foot (some ⟨pa, 0, none⟩) (some ma) a1 a2 k → w.heap.size ≤ k
  lob : ∀ k, foot (some ⟨pb, 0, none⟩) (some mb) b1 b2 k → w.heap.size ≤ k
  low : w.heap.size ≤ wb
  dj : ∀ k, foot (some ⟨pa, 0, none⟩) (some ma) a1 a2 k → ¬ foot (some ⟨pb, 0, none⟩) (some mb) b1 b2 k
section
variable {w W W' : World} {pa ma pb mb wb : Nat} {a1 a2 b1 b2 : Sd} {M : List Od}
theorem Tri.below (h : Tri w W pa ma a1 a2 pb mb b1 b2 wb M) (hb : Below W.heap.size W W') : Tri w W' pa ma a1 a2 pb mb b1 b2 wb M :=
  ⟨h.wa.below hb, h.wv.below hb, rb_low h.rb hb, h.be.trans (hb.mono h.be.size), h.loa, h.lob, h.low, h.dj⟩
theorem Tri.ref {M' : List Od} {o : Od} {c : Int} (h : Tri w W pa ma a1 a2 pb mb b1 b2 wb M) (k : RAdd W W' wb M M' o c) : Tri w W' pa ma a1 a2 pb mb b1 b2 wb M' :=
  ⟨whole_rb h.rb h.wa k.2.1, whole_rb h.rb h.wv k.2.1, k.1, h.be.trans (k.2.1.below (fun j hj => by subst hj; exact h.low) h.be.size), h.loa, h.lob, h.low, h.dj⟩
end
end Go.Proofs.YtpigkmfegmfelaaGreat
namespace Go.Proofs.YtpigkmfegmfelaaGreat
open Go.RowKit Go.Shelf Go.Sort Go.Maps

theorem infoRo : (Tryz.prog.info? 49).map (·.size) = some 6 := by kernel_rfl
theorem retRt {fn : Func} {p q : Tmp} (h : fn.results = #[.cell p 49, .tmp q]) (tmps : Array Value) (w : World) (g : Nat) (hp : tmps.getD p undef = .pointer (some ⟨g, 0, none⟩)) (z : Od) (t : TypeId)
    (hg : Cl t w g (OC z)) (v : Value) (hq : tmps.getD q undef = v) : (results fn tmps).run Tryz.prog w = .ok (.tuple #[.agg (OC z), v]) w := by
  have hp' : tmps[p]?.getD undef = .pointer (some ⟨g, 0, none⟩) := by simpa using hp
  have hq' : tmps[q]?.getD undef = v := by simpa using hq
  simp [results, h, hp', hq', asAddr, run_loadVar_row w g _ _ _ (0, 0) _ hg Tryz.underlying49 rfl infoRo]
theorem rb_read {w : World} {wb : Nat} {M : List Od} (H : RB w wb M) : ∃ A c, wb < w.heap.size ∧ Hid (∀ W, Below w.heap.size w W → Cl 46 W wb #[.slice A M.length c] ∧ W.cell? ⟨wb, 0, none⟩ = some (.slice A M.length c) ∧ ∀ i, i < M.length → ∃ g, A = some ⟨g, 0, none⟩ ∧ (M[i]!).at W g (i * 6)) := by
  obtain ⟨A, c, hc, hr⟩ := H
  refine ⟨A, c, blk_lt hc, Lib.hid (fun W hW => ?_)⟩
  have hc' : Cl 46 W wb #[.slice A M.length c] := (hW.block _ (blk_lt hc)).trans hc
  obtain ⟨A', c', hv, hq⟩ := own_que (own_low hr hW)
  injection hv with e1 _ _
  subst e1
  refine ⟨hc', (hc'.c 0).trans rfl, fun i hi => ?_⟩
  rcases hq.2 with h0 | ⟨g, h1, _, h3⟩
  · omega
  · exact ⟨g, h1, h3 i hi⟩
def getO (id : Int) (M : List Od) : Option Od := if idxN id M < M.length then some (M[idxN id M]!) else none
theorem atI_get {id : Int} {M : List Od} : (∃ i : Nat, idxN id M = i ∧ i < M.length ∧ atI id M = (i : Int) ∧ getO id M = some (M[i]!)) ∨ (atI id M = -1 ∧ getO id M = none) := by
  unfold atI getO
  by_cases h : idxN id M < M.length
  · exact .inl ⟨_, rfl, h, if_pos h, if_pos h⟩
  · exact .inr ⟨if_neg h, if_neg h⟩

end Go.Proofs.YtpigkmfegmfelaaGreat
namespace Go.Proofs.YtpigkmfegmfelaaGreat
open Go.RowKit Go.Shelf Go.Sort Go.Maps Go.Lib

theorem wpL_append {P : Program} {rest : List Oper} {opa : Array Oper} {o : Oper} {a : Act} {w : World} {Q : Exit → Act → World → Prop} (hgd : o.guard = none) (s x : Operand) (t : TypeId)
    (ho : o.op = .call { callee := .builtin .append, args := #[s, x], argTypes := #[t, t] }) (v u : Value) (hs : a.eval s = v) (hx : a.eval x = u) {v' : Value} {w' : World} (hr : (Builtin.append_ #[t, t] o.type #[v, u]).run P w = .ok v' w')
    (h : wpList P opa Q rest (a.put o.dst v') w') : wpList P opa Q (o :: rest) a w := by
  refine wpList_plain hgd fun K hK => ?_
  unfold Oper.wp execOp
  simp only [ho, resolve, invoke, builtin, Sem.run_bind, Sem.run_pure, Result.andThen_ok, List.map_toArray, List.map_cons, List.map_nil, hs, hx, hr]
  exact hK _ _ h
theorem olDrop : ∀ (M : List Od) (k : Nat), (ol M).drop (k * 6) = ol (M.drop k)
  | M, 0 => by simp
  | [], k + 1 => by simp [ol]
  | x :: M, k + 1 => by
    have e : (k + 1) * 6 = 6 + k * 6 := by omega
    rw [e, ← List.drop_drop]
    show ((encO x ++ ol M).drop 6).drop (k * 6) = _
    rw [show (encO x ++ ol M).drop 6 = ol M from rfl]
    exact olDrop M k
theorem olTake : ∀ (M : List Od) (k : Nat), (ol M).take (k * 6) = ol (M.take k)
  | M, 0 => by simp [ol]
  | [], k + 1 => by simp [ol]
  | x :: M, k + 1 => by
    have e : (k + 1) * 6 = 6 + k * 6 := by omega
    rw [e]
    show (encO x ++ ol M).take (6 + k * 6) = encO x ++ ol (M.take k)
    rw [← olTake M k]
    exact List.take_length_add_append (l₁ := encO x) (k * 6)
theorem row_cells {w : World} {base : Nat} {T : TypeId} {A : Option Addr} {c n : Nat} {M : List Od} (h : w.ownsRow base T 6 (.slice A n c) n (ol M)) (hn : 0 < n) : ∃ g, A = some ⟨g, 0, none⟩ ∧ base ≤ g ∧ n ≤ c ∧ g < w.heap.size ∧ ∀ j u, (ol M)[j]? = some u → w.cell? ⟨g, j, none⟩ = some u := by
  rcases h.2 with ⟨_, h0⟩ | ⟨k, cap, cur, hv, hb, hk, hc, _, _, ht⟩
  · omega
  · injection hv with e1 e2 e3
    subst e1 e3
    refine ⟨k, rfl, hb, hc, blk_lt hk, fun j u hj => ?_⟩
    rw [cell_of_row _ _ _ _ _ _ hk]
    rw [← ht, List.getElem?_take] at hj
    split at hj
    · rw [Array.getElem?_toList] at hj; exact hj
    · cases hj
theorem take_news {w : World} {g i : Nat} {M : List Od} (hi : i < M.length) (h : ∀ j u, (ol M)[j]? = some u → w.cell? ⟨g, j, none⟩ = some u) : ∀ j u, (ol (M.take i))[j]? = some u → w.cell? ((⟨g, 0, none⟩ : Addr).add j) = some u := by
  intro j u hj
  rw [← olTake, List.getElem?_take] at hj
  rw [addr_add, Nat.zero_add]
  split at hj
  · exact h j u hj
  · cases hj
theorem drop_news {w : World} {g i : Nat} {M : List Od} (h : ∀ j u, (ol M)[j]? = some u → w.cell? ⟨g, j, none⟩ = some u) : ∀ j u, (ol (M.drop (i + 1)))[j]? = some u → w.cell? ((⟨g, (i + 1) * 6, none⟩ : Addr).add j) = some u := by
  intro j u hj
  rw [← olDrop, List.getElem?_drop] at hj
  rw [addr_add]
  exact h _ u hj

theorem run_app2 (W : World) (base : Nat) (ty : TypeId) (v : Value) (n : Nat) (xs : List Value) (hown : W.ownsRow base 49 6 v n xs) (ad : Addr) (m c : Nat) (L : List Od) (hL : L.length = m) (hs : ∀ j u, (ol L)[j]? = some u → W.cell? (ad.add j) = some u) (hb : n + m ≤ 3000) (hbase : base ≤ W.heap.size) :
    ∃ v' w', (Builtin.append_ #[29, 29] ty #[v, .slice (some ad) m c]).run Tryz.prog W = .ok v' w' ∧ w'.ownsRow base 49 6 v' (n + m) (xs ++ ol L) ∧ W.grownBy w' v.ownBlock ∧ (v'.ownBlock = v.ownBlock ∨ v'.ownBlock = some W.heap.size) := by
  obtain ⟨i0, hi0, hz0, hz1, hz2⟩ := info_parts info_ro
  obtain ⟨v', w', h1, h2, h3, _, h5⟩ := run_append_own_at (P := Tryz.prog) W base 29 ty _ i0 (.agg (OC ⟨0, 0, 0, 0, 0, 0⟩)) 6 48 Tryz.underlying29 hi0 hz0 hz1 hz2 rfl (by decide) v n xs hown ad m c (ol L) (by rw [ol_len, hL]) hs (ol_one _) (by unfold maxLen; omega) (by omega) hbase
  exact ⟨v', w', h1, h2, h3, h5⟩

theorem fr_put6 {S : Nat → Prop} {a X : World} (c : Nat) (o : Od) (h : Fr S a X) (hc : S c ∨ a.heap.size ≤ c) : Fr S a (put6 X c o) := by
  unfold put6
  exact (((((h.set (p := ⟨c, 0, none⟩) hc _).set (p := ⟨c, 1, none⟩) hc _).set (p := ⟨c, 2, none⟩) hc _).set (p := ⟨c, 3, none⟩) hc _).set (p := ⟨c, 4, none⟩) hc _).set (p := ⟨c, 5, none⟩) hc _
def RTk (w w' : World) (wb : Nat) (M : List Od) (id : Int) : Prop := RB w' wb (M.eraseIdx (idxN id M)) ∧ Fr (fun k => k = wb) w w'
theorem idx_len (id : Int) (M : List Od) : idxN id M ≤ M.length := List.findIdx_le_length

theorem rTake_c (wb : Nat) (id : Int) (M : List Od) (w : World) (H : RB w wb M) (hn : M.length ≤ 1000) :
    Calls Tryz.prog 19 #[.pointer (some ⟨wb, 0, none⟩), .int .u64 id] w fun e w' => e = .returned (.tuple #[optV (getO id M), .bool (getO id M).isSome]) ∧ Hid (RTk w w' wb M id) := by
  have HRB := Lib.hid H
  obtain ⟨A, c, hwb, HR⟩ := rb_read H
  have B0 : Below w.heap.size w (w.alloc (.cells (OC ⟨0, 0, 0, 0, 0, 0⟩) 49)) := (Below.refl _ _).alloc (Nat.le_refl _) _
  have HAt : Hid (Calls Tryz.prog 52 #[.pointer (some ⟨wb, 0, none⟩), .int .u64 id] (w.alloc (.cells (OC ⟨0, 0, 0, 0, 0, 0⟩) 49)) fun e w' => e = .returned (.int .i64 (atI id M)) ∧ w' = (w.alloc (.cells (OC ⟨0, 0, 0, 0, 0, 0⟩) 49))) := Lib.hid (rAt_c wb id M _ (rb_low H B0) hn)
  have hC : Cl 49 (w.alloc (.cells (OC ⟨0, 0, 0, 0, 0, 0⟩) 49)) w.heap.size (OC ⟨0, 0, 0, 0, 0, 0⟩) := hd_last rfl
  have HB0 := Lib.hid B0
  have HC := Lib.hid hC
  rcases atI_get (id := id) (M := M) with ⟨i, hii, hi, ha, hg⟩ | ⟨ha, hg⟩
  · rw [ha] at HAt
    rw [hg]
    unfold RTk
    rw [hii]
    obtain ⟨_, c0, hx⟩ := HR.out _ B0
    obtain ⟨g, rfl, x0, x1, x2, x3, x4, x5⟩ := hx i hi
    obtain ⟨x, ex⟩ : ∃ x, M[i]! = x := ⟨_, rfl⟩
    rw [ex] at x0 x1 x2 x3 x4 x5 ⊢
    obtain ⟨n, hl⟩ : ∃ n, M.length = n := ⟨_, rfl⟩
    have HM := Lib.hid hl
    have HI := Lib.hid (And.intro hii hi)
    rw [hl] at c0 hi hn HR
    have hiI : (i : Int) < (n : Int) := by omega
    have hi0 : (0 : Int) ≤ (i : Int) := by omega
    have hi1 : decide ((i : Int) < 0) = false := decide_eq_false (by omega)
    have hw1 : IntKind.i64.wrap ((i : Int) + 1) = ((i + 1 : Nat) : Int) := by rw [IntKind.wrap_i64]; omega
    have hcn : n ≤ c := by
      obtain ⟨A', c', h1, h2⟩ := H
      have e0 := (HR.out w (Below.refl _ _)).1
      have e1 : some (Obj.cells #[.slice A' M.length c'] 46 (0, 0)) = some (.cells #[.slice (some ⟨g, 0, none⟩) n c] 46 (0, 0)) := h1.symm.trans e0
      injection e1 with e1
      injection e1 with e1
      injection e1 with e1
      injection e1 with e1 _
      injection e1 with e2 e3 e4
      subst e2 e4
      obtain ⟨_, h3, _, h4, _⟩ := row_cells (c := c') (n := M.length) h2 (by omega)
      omega
    have HRW : Hid (∀ W, Below w.heap.size w W → ∀ j u, (ol M)[j]? = some u → W.cell? ⟨g, j, none⟩ = some u) := Lib.hid (fun W hW => by
      obtain ⟨A', c', h1, h2⟩ := rb_low HRB.out hW
      have e0 := (HR.out W hW).1
      have e1 : some (Obj.cells #[.slice A' M.length c'] 46 (0, 0)) = some (.cells #[.slice (some ⟨g, 0, none⟩) n c] 46 (0, 0)) := h1.symm.trans e0
      injection e1 with e1
      injection e1 with e1
      injection e1 with e1
      injection e1 with e1 _
      injection e1 with e2 e3 e4
      subst e2 e4
      obtain ⟨g', e5, _, _, _, h5⟩ := row_cells h2 (by omega)
      injection e5 with e5; injection e5 with e5 _ _
      subst e5
      exact h5)
    have hd1 : decide ((i : Int) ≤ (c : Int)) = true := decide_eq_true (by omega)
    obtain ⟨ad, had, hNw⟩ : ∃ ad : Addr, (if c = i + 1 then some (⟨g, 0, none⟩ : Addr) else some ⟨g, (i + 1) * 6, none⟩) = some ad ∧ ∀ W, Below w.heap.size w W → ∀ j u, (ol (M.drop (i + 1)))[j]? = some u → W.cell? (ad.add j) = some u := by
      by_cases hc : c = i + 1
      · refine ⟨_, if_pos hc, fun W hW j u hj => ?_⟩
        rw [List.drop_of_length_le (by omega)] at hj
        cases hj
      · exact ⟨_, if_neg hc, fun W hW => drop_news (HRW.out W hW)⟩
    have HNw := Lib.hid hNw
    have hin : (i : Int) + 1 ≤ (n : Int) := by omega
    clear hx ha hg hii hl ex H B0 hC hNw
    obtain ⟨W3, hW3⟩ : ∃ W3, ((w.alloc (.cells (OC ⟨0, 0, 0, 0, 0, 0⟩) 49)).alloc (.cells (OC x) 49)).alloc (.cells #[] 49) = W3 := ⟨_, rfl⟩
    have B3 : Below w.heap.size w W3 := by rw [← hW3]; exact (((Below.refl _ _).alloc (Nat.le_refl _) _).alloc (by simp) _).alloc (by simp; omega) _
    have hE : W3.ownsRow w.heap.size 49 6 (.slice (some ⟨w.heap.size + 1 + 1, 0, none⟩) 0 0) 0 (ol []) := by
      rw [← hW3]; exact ⟨rfl, .inr ⟨_, 0, #[], rfl, by omega, hd_last (by simp), Nat.le_refl _, Nat.zero_le _, rfl, rfl⟩⟩
    have hX7 : Cl 49 W3 (w.heap.size + 1) (OC x) := by rw [← hW3]; exact hd_prev (by simp) (hd_last (by simp))
    have hX0 : Cl 49 W3 w.heap.size (OC ⟨0, 0, 0, 0, 0, 0⟩) := by rw [← hW3]; exact hd_prev (by simp; omega) (hd_prev (by simp) (hd_last rfl))
    have c3 := (HR.out _ B3).2.1
    have HA1 : Hid (∃ v' w', (Builtin.append_ #[29, 29] 29 #[.slice (some ⟨w.heap.size + 1 + 1, 0, none⟩) 0 0, .slice (some ⟨g, 0, none⟩) i c]).run Tryz.prog W3 = .ok v' w' ∧ w'.ownsRow w.heap.size 49 6 v' i (ol (M.take i)) ∧ Below w.heap.size w w' ∧ Cl 49 w' (w.heap.size + 1) (OC x) ∧ Cl 49 w' w.heap.size (OC ⟨0, 0, 0, 0, 0, 0⟩) ∧ (∀ k, v'.ownBlock = some k → w.heap.size + 1 < k)) := Lib.hid (by
      obtain ⟨v', w', h1, h2, h3, h4⟩ := run_app2 W3 w.heap.size 29 _ 0 _ hE ⟨g, 0, none⟩ i c (M.take i) (by rw [List.length_take]; have := HM.out; omega) (take_news (by have := HM.out; omega) (HRW.out _ B3)) (by omega) B3.size
      rw [Nat.zero_add, show ol [] = [] from rfl, List.nil_append] at h2
      have hz : W3.heap.size = w.heap.size + 3 := by rw [← hW3]; simp
      refine ⟨v', w', h1, h2, below_own B3 hE h3, (h3.block _ (blk_lt hX7) (by simp [Value.ownBlock])).trans hX7, (h3.block _ (blk_lt hX0) (by simp [Value.ownBlock]; omega)).trans hX0, fun k hk => ?_⟩
      rcases h4 with h4 | h4
      · rw [h4] at hk; simp [Value.ownBlock] at hk; omega
      · rw [h4] at hk; injection hk with hk; omega)
    have HW3 := Lib.hid (show W3.heap.size = w.heap.size + 3 by rw [← hW3]; simp)
    have HA2 : Hid (∀ A1 k1 y1, (y1.ownsRow w.heap.size 49 6 (.slice A1 i k1) i (ol (M.take i)) ∧ Below w.heap.size w y1 ∧ Cl 49 y1 (w.heap.size + 1) (OC x) ∧ Cl 49 y1 w.heap.size (OC ⟨0, 0, 0, 0, 0, 0⟩) ∧ (∀ k, (Value.slice A1 i k1).ownBlock = some k → w.heap.size + 1 < k)) →
        ∃ v' w', (Builtin.append_ #[29, 29] 29 #[.slice A1 i k1, .slice (some ad) (n - (i + 1)) (c - (i + 1))]).run Tryz.prog y1 = .ok v' w' ∧ w'.ownsRow w.heap.size 49 6 v' (M.eraseIdx i).length (ol (M.eraseIdx i)) ∧ Below w.heap.size w w' ∧ Cl 49 w' (w.heap.size + 1) (OC x) ∧ Cl 49 w' w.heap.size (OC ⟨0, 0, 0, 0, 0, 0⟩) ∧ (∀ k, v'.ownBlock = some k → w.heap.size + 1 < k)) := Lib.hid (by
      rintro A1 k1 y1 ⟨q1, q2, q3, q4, q5⟩
      obtain ⟨v', w', h1, h2, h3, h4⟩ := run_app2 y1 w.heap.size 29 _ i _ q1 ad (n - (i + 1)) (c - (i + 1)) (M.drop (i + 1)) (by rw [List.length_drop, HM.out]) (HNw.out _ q2) (by omega) q2.size
      have e1 : M.eraseIdx i = M.take i ++ M.drop (i + 1) := List.eraseIdx_eq_take_drop_succ ..
      have e2 : (M.eraseIdx i).length = i + (n - (i + 1)) := by rw [List.length_eraseIdx, if_pos (by rw [HM.out]; exact hi), HM.out]; omega
      rw [← ol_append, ← e1, ← e2] at h2
      refine ⟨v', w', h1, h2, below_own q2 q1 h3, (h3.block _ (blk_lt q3) (fun e => by have := q5 _ e.symm; omega)).trans q3, (h3.block _ (blk_lt q4) (fun e => by have := q5 _ e.symm; omega)).trans q4, fun k hk => ?_⟩
      rcases h4 with h4 | h4
      · rw [h4] at hk; exact q5 k hk
      · rw [h4] at hk; injection hk with hk; have := blk_lt q3; omega)
    clear hE hX7 hX0 B3
    go_enter Tryz.func19, Tryz.ntmps19
    go_wp2_with (first | ((with_reducible refine HAt.out.mono ?_); rintro e w1 ⟨rfl, rfl⟩) | (at_builtin; obtain ⟨v1, y1, hr1, h1⟩ := HA1.out; refine wpL_append rfl _ _ 29 rfl _ _ rfl rfl hr1 ?_; obtain ⟨A1, k1, rfl, _⟩ := own_que2 h1.1; have cy := (HR.out _ h1.2.1).2.1; have HY := Lib.hid h1; clear HA1 h1 hr1 hW3 c3) | (at_builtin; obtain ⟨v2, y2, hr2, h2⟩ := HA2.out _ _ _ HY.out; (try rw [had]); refine wpL_append rfl _ _ 29 rfl _ _ rfl rfl hr2 ?_; obtain ⟨A2, k2, rfl, _⟩ := own_que2 h2.1; clear HA2 HY cy; have b0 := (HR.out _ h2.2.1).1; have d0 := (HR.out _ h2.2.1).2.1; have df := Cl.f (k := 0) b0; have p7 : Cl 49 (y2.setCell ⟨wb, 0, none⟩ (.slice A2 (M.eraseIdx i).length k2)) (w.heap.size + 1) (OC x) := (heap_far (by show w.heap.size + 1 ≠ wb; omega)).trans h2.2.2.1; have p0 : Cl 49 (y2.setCell ⟨wb, 0, none⟩ (.slice A2 (M.eraseIdx i).length k2)) w.heap.size (OC ⟨0, 0, 0, 0, 0, 0⟩) := (heap_far (by show w.heap.size ≠ wb; omega)).trans h2.2.2.2.1; have HY2 := Lib.hid h2; have HP0 := Lib.hid p0; obtain ⟨t0, t1, t2, t3, t4, t5⟩ := six_of p7; obtain ⟨s0, s1, s2, s3, s4, s5⟩ := six_of p0; have f0 := p0.f (k := 0); have f1 := p0.f (k := 1); have f2 := p0.f (k := 2); have f3 := p0.f (k := 3); have f4 := p0.f (k := 4); have f5 := p0.f (k := 5); clear h2 hr2 b0 p7 p0))
    have hf := put6_cl x HP0.out
    refine bodyPost_ret (retRt rfl _ _ _ rfl x _ hf _ rfl) rfl ?_
    refine ⟨rfl, Lib.hid ?_⟩
    obtain ⟨q1, q2, q3, q4, q5⟩ := HY2.out
    have hfr : Fr (fun k => k = wb) w (put6 (y2.setCell ⟨wb, 0, none⟩ (.slice A2 (M.eraseIdx i).length k2)) w.heap.size x) := fr_put6 _ _ (Fr.set (S := fun k => k = wb) (Fr.of_below q2) (p := ⟨wb, 0, none⟩) (.inl rfl) _) (.inr (Nat.le_refl _))
    refine ⟨⟨A2, k2, ?_, ?_⟩, hfr⟩
    · show (put6 _ _ _).heap[wb]? = _
      rw [put6_far _ x (by omega)]
      exact (heap_set (HR.out _ q2).1).trans rfl
    · have h0 : (y2.setCell ⟨wb, 0, none⟩ (.slice A2 (M.eraseIdx i).length k2)).ownsRow w.heap.size 49 6 (.slice A2 (M.eraseIdx i).length k2) (M.eraseIdx i).length (ol (M.eraseIdx i)) :=
        own_fr q1 (S := fun k => k = wb) ((Fr.refl (fun k => k = wb) y2).set (p := ⟨wb, 0, none⟩) (.inl rfl) _) (fun k hk e => by have := q5 k hk; omega)
      refine own_base (own_fr h0 (S := fun k => k = w.heap.size) (fr_put6 _ _ (Fr.refl (fun k => k = w.heap.size) _) (.inl rfl)) (fun k hk e => by have := q5 k hk; omega)) (Nat.zero_le _)
  · rw [ha] at HAt
    rw [hg]
    have hid0 : idxN id M = M.length := by
      have h1 := idx_len id M
      unfold atI at ha
      split at ha
      · omega
      · omega
    have HE : Hid (M.eraseIdx (idxN id M) = M) := Lib.hid (by rw [hid0]; exact List.eraseIdx_of_length_le (Nat.le_refl _))
    have HZ : Hid (∀ w', Below w.heap.size w w' → RTk w w' wb M id) := Lib.hid (fun w' hb => ⟨by rw [HE.out]; exact rb_low HRB.out hb, Fr.of_below hb⟩)
    clear ha hg hid0 HE B0 hC H
    go_enter Tryz.func19, Tryz.ntmps19
    go_wp2_with ((with_reducible refine HAt.out.mono ?_); rintro e w1 ⟨rfl, rfl⟩)
    refine bodyPost_ret (retRt rfl _ _ _ rfl ⟨0, 0, 0, 0, 0, 0⟩ _ (hd_last rfl) _ rfl) rfl ?_
    exact ⟨rfl, Lib.hid (HZ.out _ ((Below.refl _ _).alloc (Nat.le_refl _) _))⟩

def cutR (id qty : Int) (M : List Od) : Int × List Od :=
  if idxN id M < M.length then (if qty < 1 ∨ (M[idxN id M]!).qty < qty then (2, M) else if qty = (M[idxN id M]!).qty then (0, M.eraseIdx (idxN id M)) else (0, M.set (idxN id M) (lessO (M[idxN id M]!) qty))) else (51, M)
def put6o (X : World) (k o : Nat) (x : Od) : World := (((((X.setCell ⟨k, o, none⟩ (.int .u64 x.id)).setCell ⟨k, o + 1, none⟩ (.int .i64 x.acc)).setCell ⟨k, o + 2, none⟩ (.int .i64 x.side)).setCell ⟨k, o + 3, none⟩ (.int .i64 x.price)).setCell ⟨k, o + 4, none⟩ (.int .i64 x.qty)).setCell ⟨k, o + 5, none⟩ (.int .u64 x.seq)
theorem put6o_far (X : World) {k j : Nat} (o : Nat) (x : Od) (h : j ≠ k) : (put6o X k o x).heap[j]? = X.heap[j]? := by
  unfold put6o
  rw [heap_far (by exact h), heap_far (by exact h), heap_far (by exact h), heap_far (by exact h), heap_far (by exact h), heap_far (by exact h)]
theorem ol_set : ∀ (M : List Od) (i : Nat) (x : Od), i < M.length → ((((((ol M).set (i * 6) (.int .u64 x.id)).set (i * 6 + 1) (.int .i64 x.acc)).set (i * 6 + 2) (.int .i64 x.side)).set (i * 6 + 3) (.int .i64 x.price)).set (i * 6 + 4) (.int .i64 x.qty)).set (i * 6 + 5) (.int .u64 x.seq) = ol (M.set i x)
  | [], i, x, h => absurd h (Nat.not_lt_zero _)
  | y :: M, 0, x, h => rfl
  | y :: M, i + 1, x, h => by
    have ih := ol_set M i x (by simpa using h)
    have e : ∀ j, (i + 1) * 6 + j = (i * 6 + j) + 6 := fun j => by omega
    have e0 : (i + 1) * 6 = i * 6 + 6 := by omega
    show ((((((encO y ++ ol M).set ((i + 1) * 6) (.int .u64 x.id)).set ((i + 1) * 6 + 1) (.int .i64 x.acc)).set ((i + 1) * 6 + 2) (.int .i64 x.side)).set ((i + 1) * 6 + 3) (.int .i64 x.price)).set ((i + 1) * 6 + 4) (.int .i64 x.qty)).set ((i + 1) * 6 + 5) (.int .u64 x.seq) = encO y ++ ol (M.set i x)
    rw [e 1, e 2, e 3, e 4, e 5, e0, ← ih]
    have s : ∀ (l : List Value) (j : Nat) (v : Value), (encO y ++ l).set (j + 6) v = encO y ++ l.set j v := fun l j v => by
      rw [List.set_append_right (s := encO y) _ _ (by show 6 ≤ _; omega)]; rfl
    rw [s, s, s, s, s, s]
theorem own_put6o {w : World} {base k n c i : Nat} {T : TypeId} {M : List Od} (x : Od) (h : w.ownsRow base T 6 (.slice (some ⟨k, 0, none⟩) n c) n (ol M)) (hi : i < M.length) : (put6o w k (i * 6) x).ownsRow base T 6 (.slice (some ⟨k, 0, none⟩) n c) n (ol (M.set i x)) := by
  unfold put6o
  rw [← ol_set M i x hi]
  exact own_setCell (own_setCell (own_setCell (own_setCell (own_setCell (own_setCell h rfl) rfl) rfl) rfl) rfl) rfl
theorem cutR_some {id qty : Int} {M : List Od} {i : Nat} (h : idxN id M = i) (hi : i < M.length) : cutR id qty M = if qty < 1 ∨ (M[i]!).qty < qty then (2, M) else if qty = (M[i]!).qty then (0, M.eraseIdx i) else (0, M.set i (lessO (M[i]!) qty)) := by
  unfold cutR
  rw [h, if_pos hi]

theorem row_cell {w : World} {base k n c j : Nat} {T : TypeId} {M : List Od} (h : w.ownsRow base T 6 (.slice (some ⟨k, 0, none⟩) n c) n (ol M)) (hj : j < n * 6) : ∃ v, w.cell? ⟨k, j, none⟩ = some v ∧ w.frozen? ⟨k, j, none⟩ = false := by
  have hl := h.1
  rcases h.2 with ⟨e, _⟩ | ⟨k', cap, cur, hv, _, hk, _⟩
  · cases e
  · injection hv with e1 e2 e3
    injection e1 with e1
    injection e1 with e1 _ _
    subst e1
    obtain ⟨g, e4, _, _, _, h5⟩ := row_cells h (by omega)
    injection e4 with e4
    injection e4 with e4 _ _
    subst e4
    exact ⟨_, h5 j _ (List.getElem?_eq_getElem (by omega)), frozen_of_row _ _ _ _ _ hk⟩
theorem infoRc (x : Od) : (Tryz.prog.info? 49).map (·.size) = some (OC x).size := infoRo
theorem storeO {ops : Array Oper} {rest : List Oper} {o : Oper} {a : Act} {w : World} {Q : Exit → Act → World → Prop} (hgd : o.guard = none) (x y : Operand) (ho : o.op = .store 49 x y) (k f : Nat) (z : Od) (hx : a.eval x = .pointer (some ⟨k, f, none⟩)) (hy : a.eval y = .agg (OC z))
    (base n c i : Nat) (T : TypeId) (M : List Od) (hown : w.ownsRow base T 6 (.slice (some ⟨k, 0, none⟩) n c) n (ol M)) (hi : i < n) (hM : M.length = n) (hf : f = i * 6)
    (h : ∀ w', w'.ownsRow base T 6 (.slice (some ⟨k, 0, none⟩) n c) n (ol (M.set i z)) → (∀ j, j ≠ k → w'.heap[j]? = w.heap[j]?) → (∀ B, B ≤ k → Below B w w') → wpList Tryz.prog ops Q rest (a.put o.dst undef) w') : wpList Tryz.prog ops Q (o :: rest) a w := by
  subst hf
  have ht : w.there k (i * 6) 6 := by
    intro j hj
    obtain ⟨v, h1, h2⟩ := row_cell hown (j := i * 6 + j) (by omega)
    exact ⟨by rw [h1]; rfl, h2⟩
  have h1 : (OC z).all (·.oneCell') = true := all_oneCell_toArray (cs := encO z) (enc_one z)
  refine wpList_store_mid hgd _ x y ho k (i * 6) (OC z) hx hy ht (infoRc z) h1 ?_
  refine h (put6o w k (i * 6) z) (own_put6o z hown (by omega)) (fun j hj => put6o_far w _ z hj) (fun B hB => ?_)
  unfold put6o
  exact ((((((Below.refl B w).setCell (p := ⟨k, i * 6, none⟩) hB _).setCell (p := ⟨k, i * 6 + 1, none⟩) hB _).setCell (p := ⟨k, i * 6 + 2, none⟩) hB _).setCell (p := ⟨k, i * 6 + 3, none⟩) hB _).setCell (p := ⟨k, i * 6 + 4, none⟩) hB _).setCell (p := ⟨k, i * 6 + 5, none⟩) hB _
theorem rCut_c (wb : Nat) (id qty : Int) (M : List Od) (w : World) (H : RB w wb M) (hn : M.length ≤ 1000) (hq : ∀ x ∈ M, x.qty ≤ 1099511627776) :
    Calls Tryz.prog 21 #[.pointer (some ⟨wb, 0, none⟩), .int .u64 id, .int .i64 qty] w fun e w' => e = .returned (.int .i64 (cutR id qty M).1) ∧ Hid (RB w' wb (cutR id qty M).2 ∧ Fr (fun k => k = wb) w w') := by
  have HRB := Lib.hid H
  obtain ⟨A, c, hwb, HR⟩ := rb_read H
  have HAt : Hid (Calls Tryz.prog 52 #[.pointer (some ⟨wb, 0, none⟩), .int .u64 id] w fun e w' => e = .returned (.int .i64 (atI id M)) ∧ w = w') := Lib.hid ((rAt_c wb id M _ H hn).mono fun _ _ h => ⟨h.1, h.2.symm⟩)
  rcases atI_get (id := id) (M := M) with ⟨i, hii, hi, ha, hg⟩ | ⟨ha, hg⟩
  · rw [ha] at HAt
    rw [cutR_some hii hi]
    obtain ⟨_, c0, hx⟩ := HR.out w (Below.refl _ _)
    obtain ⟨g, rfl, x0, x1, x2, x3, x4, x5⟩ := hx i hi
    have hqx := hq M[i]! (by rw [getElem!_pos M i hi]; exact List.getElem_mem hi)
    obtain ⟨x, ex⟩ : ∃ x, M[i]! = x := ⟨_, rfl⟩
    rw [ex] at x0 x1 x2 x3 x4 x5 hqx ⊢
    obtain ⟨n, hl⟩ : ∃ n, M.length = n := ⟨_, rfl⟩
    have HM := Lib.hid hl
    have HI := Lib.hid (And.intro hii hi)
    rw [hl] at c0 hi hn HR
    have hiI : (i : Int) < (n : Int) := by omega
    have hi0 : (0 : Int) ≤ (i : Int) := by omega
    have hi1 : decide ((i : Int) < 0) = false := decide_eq_false (by omega)
    have HW1 : Hid (∀ y : Od, Below w.heap.size w (w.alloc (.cells (OC y) 49))) := Lib.hid (fun y => (Below.refl _ _).alloc (Nat.le_refl _) _)
    have HSM : Hid (∀ w', Below w.heap.size w w' → RB w' wb M ∧ Fr (fun k => k = wb) w w') := Lib.hid (fun w' hb => ⟨rb_low HRB.out hb, Fr.of_below hb⟩)
    clear hx ha hg hii hl H hq
    by_cases q1 : qty < 1
    · rw [if_pos (.inl q1)]
      have q2 : decide (qty < 1) = true := decide_eq_true q1
      clear ex
      go_enter Tryz.func21, Tryz.ntmps21
      go_wp2_with ((with_reducible refine HAt.out.mono ?_); rintro e w1 ⟨rfl, rfl⟩)
      go_ret
      exact ⟨rfl, Lib.hid (HSM.out _ (HW1.out x))⟩
    have q2 : decide (qty < 1) = false := decide_eq_false q1
    by_cases q3 : x.qty < qty
    · rw [if_pos (.inr q3)]
      have q4 : decide (x.qty < qty) = true := decide_eq_true q3
      clear ex
      go_enter Tryz.func21, Tryz.ntmps21
      go_wp2_with ((with_reducible refine HAt.out.mono ?_); rintro e w1 ⟨rfl, rfl⟩)
      go_ret
      exact ⟨rfl, Lib.hid (HSM.out _ (HW1.out x))⟩
    have q4 : decide (x.qty < qty) = false := decide_eq_false q3
    rw [if_neg (by omega)]
    by_cases q5 : qty = x.qty
    · rw [if_pos q5]
      have q6 : (qty == x.qty) = true := by simp [q5]
      have HT := Lib.hid (rTake_c wb id M (w.alloc (.cells (OC x) 49)) (rb_low HRB.out (HW1.out x)) (by rw [HM.out]; exact hn))
      clear ex q5 q3
      go_enter Tryz.func21, Tryz.ntmps21
      go_wp2_with (first | ((with_reducible refine HAt.out.mono ?_); rintro e w1 ⟨rfl, rfl⟩) | ((with_reducible refine HT.out.mono ?_); rintro e w2 ⟨rfl, ht⟩))
      go_ret
      refine ⟨rfl, Lib.hid ?_⟩
      have h := ht.out
      unfold RTk at h
      rw [HI.out.1] at h
      exact ⟨h.1, (Fr.of_below (HW1.out x) : Fr (fun k => k = wb) _ _).trans h.2 (fun k hk => .inl hk)⟩
    · rw [if_neg q5]
      have q6 : (qty == x.qty) = false := by simp [q5]
      have q7 : IntKind.i64.wrap (x.qty - qty) = x.qty - qty := by rw [IntKind.wrap_i64]; omega
      have HX := Lib.hid ex
      obtain ⟨W3, hW3⟩ : ∃ W3, (w.alloc (.cells #[.int .u64 x.id, .int .i64 x.acc, .int .i64 x.side, .int .i64 x.price, .int .i64 (x.qty - qty), .int .u64 x.seq] 49)).alloc (.cells #[] 49) = W3 := ⟨_, rfl⟩
      have B3 : Below w.heap.size w W3 := by rw [← hW3]; exact ((Below.refl _ _).alloc (Nat.le_refl _) _).alloc (by simp) _
      have hE : W3.ownsRow w.heap.size 49 6 (.slice (some ⟨w.heap.size + 1, 0, none⟩) 0 0) 0 (ol []) := by
        rw [← hW3]; exact ⟨rfl, .inr ⟨_, 0, #[], rfl, by omega, hd_last (by simp), Nat.le_refl _, Nat.zero_le _, rfl, rfl⟩⟩
      have hX7 : Cl 49 W3 w.heap.size (OC (lessO x qty)) := by rw [← hW3]; exact hd_prev (by simp) (hd_last rfl)
      have c3 := (HR.out _ B3).2.1
      have HA1 : Hid (∃ k c' w', (Builtin.append_ #[29, 29] 29 #[.slice (some ⟨w.heap.size + 1, 0, none⟩) 0 0, .slice (some ⟨g, 0, none⟩) n c]).run Tryz.prog W3 = .ok (.slice (some ⟨k, 0, none⟩) n c') w' ∧ w'.ownsRow w.heap.size 49 6 (.slice (some ⟨k, 0, none⟩) n c') n (ol M) ∧ Below w.heap.size w w' ∧ Cl 49 w' w.heap.size (OC (lessO x qty)) ∧ w.heap.size < k) := Lib.hid (by
        obtain ⟨A', c', h1, h2⟩ := rb_low HRB.out B3
        have e0 := (HR.out W3 B3).1
        have e1 : some (Obj.cells #[.slice A' M.length c'] 46 (0, 0)) = some (.cells #[.slice (some ⟨g, 0, none⟩) n c] 46 (0, 0)) := h1.symm.trans e0
        injection e1 with e1
        injection e1 with e1
        injection e1 with e1
        injection e1 with e1 _
        injection e1 with e2 e3 e4
        subst e2 e4
        rw [HM.out] at h2
        obtain ⟨v', w', h3, h4, h5, h6⟩ := run_app W3 w.heap.size 29 _ 0 _ hE _ n c' M h2 (by omega) B3.size
        rw [Nat.zero_add, show ol [] = [] from rfl, List.nil_append] at h4
        obtain ⟨A2, k2, rfl, _⟩ := own_que2 h4
        obtain ⟨k, rfl, hk1, _⟩ := row_cells h4 (by omega)
        have hz : W3.heap.size = w.heap.size + 2 := by rw [← hW3]; simp
        refine ⟨k, k2, w', h3, h4, below_own B3 hE h5, (h5.block _ (blk_lt hX7) (by simp [Value.ownBlock])).trans hX7, ?_⟩
        rcases h6 with h6 | h6 <;> (simp [Value.ownBlock] at h6; omega))
      clear hE hX7 B3 q3 q5 ex
      go_enter Tryz.func21, Tryz.ntmps21
      go_wp2_with (first | ((with_reducible refine HAt.out.mono ?_); rintro e w1 ⟨rfl, rfl⟩) | (at_builtin; obtain ⟨k, c', y1, hr1, h1⟩ := HA1.out; refine wpL_append rfl _ _ 29 rfl _ _ rfl rfl hr1 ?_; have cy := (HR.out _ h1.2.1).2.1; obtain ⟨t0, t1, t2, t3, t4, t5⟩ := six_of h1.2.2.1; have HY := Lib.hid h1; clear HA1 h1 hr1 hW3 c3) | ((with_reducible apply storeO (z := lessO x qty) (i := i) (M := M)); rfl; rfl; rfl; rfl; exact HY.out.1; exact hi; exact HM.out; rfl; skip))
      intro w5 o5 q5 b5
      obtain ⟨h1, h2, h3, h4⟩ := HY.out
      have B5 : Below w.heap.size w w5 := h2.trans (b5 _ (by omega))
      have z0 : Cl 46 w5 wb #[.slice (some ⟨g, 0, none⟩) n c] := (HR.out _ B5).1
      have z1 := (HR.out _ B5).2.1
      have z2 := z0.f (k := 0)
      have HF : Hid (RB (w5.setCell ⟨wb, 0, none⟩ (.slice (some ⟨k, 0, none⟩) n c')) wb (M.set i (lessO x qty)) ∧ Fr (fun k => k = wb) w (w5.setCell ⟨wb, 0, none⟩ (.slice (some ⟨k, 0, none⟩) n c'))) := Lib.hid (by
        have hl : (M.set i (lessO x qty)).length = n := by rw [List.length_set]; exact HM.out
        refine ⟨⟨some ⟨k, 0, none⟩, c', ?_, ?_⟩, Fr.set (S := fun k => k = wb) (Fr.of_below B5) (p := ⟨wb, 0, none⟩) (.inl rfl) _⟩
        · rw [hl]; exact (heap_set z0).trans rfl
        · rw [hl]
          refine own_base (own_fr o5 (S := fun k => k = wb) ((Fr.refl (fun k => k = wb) w5).set (p := ⟨wb, 0, none⟩) (.inl rfl) _) (fun k2 hk e => ?_)) (Nat.zero_le _)
          injection hk with hk
          have hk' : k = k2 := hk
          omega)
      clear o5 q5 b5 h1 h2 h3 HY B5 z0
      go_wp2_with fail
      go_ret
      exact ⟨rfl, HF⟩
  · rw [ha] at HAt
    have hc : cutR id qty M = (51, M) := by
      unfold cutR
      rw [if_neg]
      intro h
      unfold getO at hg
      rw [if_pos h] at hg
      cases hg
    rw [hc]
    clear ha hg hc HR hq H
    go_enter Tryz.func21, Tryz.ntmps21
    go_wp2_with ((with_reducible refine HAt.out.mono ?_); rintro e w1 ⟨rfl, rfl⟩)
    go_ret
    exact ⟨rfl, Lib.hid ⟨HRB.out, Fr.refl _ _⟩⟩

def levL (sd p : Int) (M : List Od) : List Od := M.filter (fun x => x.side == sd && x.price == p)
theorem levL_snoc {sd p : Int} {M : List Od} {i : Nat} (hi : i < M.length) : levL sd p (M.take (i + 1)) = if ((M[i]!).side == sd && (M[i]!).price == p) = true then levL sd p (M.take i) ++ [M[i]!] else levL sd p (M.take i) := by
  unfold levL
  rw [List.take_succ_eq_append_getElem hi, List.filter_append, getElem!_pos M i hi, List.filter_cons]
  split <;> simp
theorem levL_len (sd p : Int) (M : List Od) : (levL sd p M).length ≤ M.length := List.length_filter_le _ _

theorem rLevel_c (wb : Nat) (sd p : Int) (M : List Od) (w : World) (H : RB w wb M) (hn : M.length ≤ 1000) :
    Calls Tryz.prog 29 #[.pointer (some ⟨wb, 0, none⟩), .int .i64 sd, .int .i64 p] w fun e w' => ∃ v, e = .returned v ∧ Hid (w'.ownsRow w.heap.size 49 6 v (levL sd p M).length (ol (levL sd p M)) ∧ Below w.heap.size w w') := by
  obtain ⟨i0, hi0, hz0, hz1, hz2⟩ := info_parts info_ro
  obtain ⟨A, c, hwb, HR⟩ := rb_read H
  obtain ⟨n, hl⟩ : ∃ n, M.length = n := ⟨_, rfl⟩
  have HM := Lib.hid hl
  rw [hl] at hn HR
  have c0 := (HR.out w (Below.refl _ _)).2.1
  clear H hl
  go_enter Tryz.func29, Tryz.ntmps29
  go_wp2_with fail
  clear c0
  go_loopg [7, 8] n (fun kx v s8 wr => ∃ k : Nat, s8 = .int .i64 k ∧ k ≤ n ∧ n - k ≤ kx ∧ Aside (wr.ownsRow w.heap.size 49 6 v (levL sd p (M.take k)).length (ol (levL sd p (M.take k)))) ∧ Hid (Below w.heap.size w wr))
  case atStart => exact ⟨0, rfl, by omega, by omega, World.ownsRow_nil _ _ _ _, Lib.hid (Below.refl _ _)⟩
  case round =>
    obtain ⟨k, rfl, hk, hkx, hown, hd⟩ := hrel
    have c0 := (HR.out _ hd.out).2.1
    by_cases hlt : k < n
    · have hltI : (k : Int) < (n : Int) := by omega
      have hk0 : (0 : Int) ≤ (k : Int) := by omega
      obtain ⟨g, rfl, x0, x1, x2, x3, x4, x5⟩ := (HR.out _ hd.out).2.2 k hlt
      have hs := Lib.hid (levL_snoc (sd := sd) (p := p) (M := M) (i := k) (by rw [HM.out]; exact hlt))
      have hll := levL_len sd p (M.take k)
      rw [List.length_take] at hll
      obtain ⟨x, ex⟩ : ∃ x, M[k]! = x := ⟨_, rfl⟩
      rw [ex] at x0 x1 x2 x3 x4 x5 hs
      have hw9 : IntKind.i64.wrap ((k : Int) + 1) = ((k + 1 : Nat) : Int) := by rw [IntKind.wrap_i64]; omega
      clear ex
      by_cases e1 : x.side = sd
      · have f1 : (x.side == sd) = true := by simp [e1]
        by_cases e2 : x.price = p
        · have f2 : (x.price == p) = true := by simp [e2]
          have HS : Hid (levL sd p (M.take (k + 1)) = levL sd p (M.take k) ++ [x]) := Lib.hid (by rw [hs.out, f1, f2]; rfl)
          have hbl : (levL sd p (M.take k)).length ≤ 1000 := by omega
          have hsz := hd.out.size
          have HW := Lib.hid hown.out
          clear hs e1 e2 hll hown
          go_wp2_with (at_builtin; refine wpList_append_own _ rfl _ _ 29 rfl w.heap.size 49 i0 (.agg (OC ⟨0, 0, 0, 0, 0, 0⟩)) 6 48 Tryz.underlying29 hi0 hz0 hz1 hz2 rfl (by decide) _ _ _ rfl (HW.out.alloc _) ⟨wr.heap.size, 0, none⟩ 1 1 (encO x) rfl rfl ?c1 ?c2 ?c3 ?c4 ?c5 ?_)
          case c1 => exact six_news _ x
          case c2 => exact enc_one x
          case c3 => unfold maxLen; omega
          case c4 => omega
          case c5 => simp; omega
          intro v1 w1 hown1 hg1 _
          have hB1 : Hid (Below w.heap.size w w1) := Below.grown (hd.out.alloc hsz _) hg1 (by simp; omega) (fun k hk => (HW.out.lt k hk).1)
          have hA1 : Aside (w1.ownsRow w.heap.size 49 6 v1 (levL sd p (M.take (k + 1))).length (ol (levL sd p (M.take (k + 1))))) := by
            rw [HS.out, List.length_append, ol_append]; exact hown1
          clear hg1 hown1 HW hd c0
          go_wp2_with fail
          go_roundg (n - (k + 1))
          case measure => omega
          case rel => exact ⟨k + 1, by go_num, by omega, by omega, hA1, hB1⟩
        · have f2 : (x.price == p) = false := by simp [e2]
          have HS : Hid (levL sd p (M.take (k + 1)) = levL sd p (M.take k)) := Lib.hid (by rw [hs.out, f1, f2]; rfl)
          have hA1 := hown
          rw [← HS.out] at hA1
          clear hs e1 e2 hll hown
          go_wp2_with fail
          go_roundg (n - (k + 1))
          case measure => omega
          case rel => exact ⟨k + 1, by go_num, by omega, by omega, hA1, hd⟩
      · have f1 : (x.side == sd) = false := by simp [e1]
        have HS : Hid (levL sd p (M.take (k + 1)) = levL sd p (M.take k)) := Lib.hid (by rw [hs.out, f1]; rfl)
        have hA1 := hown
        rw [← HS.out] at hA1
        clear hs e1 hll hown
        go_wp2_with fail
        go_roundg (n - (k + 1))
        case measure => omega
        case rel => exact ⟨k + 1, by go_num, by omega, by omega, hA1, hd⟩
    · have hltI : ¬ (k : Int) < (n : Int) := by omega
      have h := hown.out
      rw [List.take_of_length_le (by rw [HM.out]; omega)] at h
      have hF := Lib.hid (And.intro h hd.out)
      clear hown h
      go_wp2_with fail
      go_ret
      exact ⟨_, rfl, hF⟩

theorem side_snoc {sd : Int} {M : List Od} {i : Nat} (hi : i < M.length) : sideL sd (M.take (i + 1)) = if ((M[i]!).side == sd) = true then sideL sd (M.take i) ++ [M[i]!] else sideL sd (M.take i) := by
  unfold sideL
  rw [List.take_succ_eq_append_getElem hi, List.filter_append, getElem!_pos M i hi, List.filter_cons]
  split <;> simp
theorem prs_snoc (L : List Od) (x : Od) : prs (L ++ [x]) = if (prs L).getLast? = some x.price then prs L else prs L ++ [x.price] := by
  unfold prs
  rw [List.foldl_append]
  rfl
theorem prs_len (L : List Od) : (prs L).length ≤ L.length := by
  unfold prs
  have key : ∀ (L : List Od) (out : List Int), (L.foldl prF out).length ≤ out.length + L.length := by
    intro L
    induction L with
    | nil => intro out; simp
    | cons x L ih =>
      intro out
      rw [List.foldl_cons]
      refine Nat.le_trans (ih _) ?_
      unfold prF
      split <;> simp <;> omega
  simpa using key L []
def iV (l : List Int) : List Value := l.map (fun p => .int .i64 p)
theorem iV_snoc (l : List Int) (x : Int) : iV (l ++ [x]) = iV l ++ [.int .i64 x] := by unfold iV; rw [List.map_append]; rfl
theorem last_at {w : World} {base n : Nat} {v : Value} {l : List Int} (h : w.ownsRow base 2 1 v n (iV l)) (hl : l ≠ []) : ∃ g c y, v = .slice (some ⟨g, 0, none⟩) n c ∧ l.length = n ∧ l.getLast? = some y ∧ w.cell? ⟨g, n - 1, none⟩ = some (.int .i64 y) := by
  obtain ⟨A, c, rfl, h1, h2⟩ := ints_at h
  have hn : 0 < n := by rw [← h1]; exact List.length_pos_iff.2 hl
  rcases h2 with h0 | ⟨g, rfl, h3⟩
  · omega
  · refine ⟨g, c, l[n - 1]!, rfl, h1, ?_, h3 (n - 1) (by omega)⟩
    rw [List.getLast?_eq_getElem?, h1, List.getElem?_eq_getElem (by omega), getElem!_pos l (n - 1) (by omega)]

theorem rPrices_c (wb : Nat) (sd : Int) (M : List Od) (w : World) (H : RB w wb M) (hn : M.length ≤ 1000) :
    Calls Tryz.prog 31 #[.pointer (some ⟨wb, 0, none⟩), .int .i64 sd] w fun e w' => ∃ v, e = .returned v ∧ Hid (w'.ownsRow w.heap.size 2 1 v (prs (sideL sd M)).length (iV (prs (sideL sd M))) ∧ Below w.heap.size w w') := by
  obtain ⟨i0, hi0, hz0, hz1, hz2⟩ := info_parts info_i64
  obtain ⟨A, c, hwb, HR⟩ := rb_read H
  obtain ⟨n, hl⟩ : ∃ n, M.length = n := ⟨_, rfl⟩
  have HM := Lib.hid hl
  rw [hl] at hn HR
  have c0 := (HR.out w (Below.refl _ _)).2.1
  clear H hl
  go_enter Tryz.func31, Tryz.ntmps31
  go_wp2_with fail
  clear c0
  go_loopg [5, 6] n (fun kx v s6 wr => ∃ k : Nat, s6 = .int .i64 k ∧ k ≤ n ∧ n - k ≤ kx ∧ Aside (wr.ownsRow w.heap.size 2 1 v (prs (sideL sd (M.take k))).length (iV (prs (sideL sd (M.take k))))) ∧ Hid (Below w.heap.size w wr))
  case atStart => exact ⟨0, rfl, by omega, by omega, World.ownsRow_nil _ _ _ _, Lib.hid (Below.refl _ _)⟩
  case round =>
    obtain ⟨k, rfl, hk, hkx, hown, hd⟩ := hrel
    have c0 := (HR.out _ hd.out).2.1
    by_cases hlt : k < n
    · have hltI : (k : Int) < (n : Int) := by omega
      have hk0 : (0 : Int) ≤ (k : Int) := by omega
      obtain ⟨g, rfl, x0, x1, x2, x3, x4, x5⟩ := (HR.out _ hd.out).2.2 k hlt
      have hs := Lib.hid (side_snoc (sd := sd) (M := M) (i := k) (by rw [HM.out]; exact hlt))
      have hll := prs_len (sideL sd (M.take k))
      have hl2 : (sideL sd (M.take k)).length ≤ k := Nat.le_trans (List.length_filter_le _ _) (by rw [List.length_take]; omega)
      obtain ⟨x, ex⟩ : ∃ x, M[k]! = x := ⟨_, rfl⟩
      rw [ex] at x0 x1 x2 x3 x4 x5 hs
      have hw9 : IntKind.i64.wrap ((k : Int) + 1) = ((k + 1 : Nat) : Int) := by rw [IntKind.wrap_i64]; omega
      obtain ⟨P, hP⟩ : ∃ P, P = prs (sideL sd (M.take k)) := ⟨_, rfl⟩
      rw [← hP] at hown hll
      have HPP := Lib.hid hP
      clear ex hP
      by_cases e1 : x.side = sd
      · have f1 : (x.side == sd) = true := by simp [e1]
        have HS : Hid (prs (sideL sd (M.take (k + 1))) = if P.getLast? = some x.price then P else P ++ [x.price]) := Lib.hid (by rw [hs.out, f1, if_pos rfl, prs_snoc, HPP.out])
        clear hs e1
        by_cases e2 : P = []
        · subst e2
          obtain ⟨A0, k0, rfl, _⟩ := own_que2 hown.out
          have HS2 : Hid (prs (sideL sd (M.take (k + 1))) = [] ++ [x.price]) := Lib.hid (by rw [HS.out]; rfl)
          have HAQ : Hid (∀ q, (wr.drewN q).ownsRow w.heap.size 2 1 (.slice A0 0 k0) 0 (iV []) ∧ Below w.heap.size w (wr.drewN q)) := Lib.hid (fun q => ⟨hown.out, below_drewN hd.out q⟩)
          have hbl : ([] : List Int).length ≤ 1000 := by simp
          clear HS hll hown hd
          go_wp2_with fail
          go_quiet (fail)
          have HW := Lib.hid (HAQ.out nq)
          have q0 : (wr.drewN nq).cell? ⟨wb, 0, none⟩ = some (.slice (some ⟨g, 0, none⟩) n c) := (HR.out _ HW.out.2).2.1
          have q3 : (wr.drewN nq).cell? ⟨g, k * 6 + 3, none⟩ = some (.int .i64 x.price) := x3
          clear HAQ x0 x1 x2 x3 x4 x5 c0
          generalize wr.drewN nq = wq at HW q0 q3 ⊢
          go_wp2_with (at_builtin; refine wpList_append_own _ rfl _ _ 60 rfl w.heap.size 2 i0 (.int .i64 0) 1 8 Tryz.underlying60 hi0 hz0 hz1 hz2 rfl (by decide) _ _ _ rfl (HW.out.1.alloc _) ⟨wq.heap.size, 0, none⟩ 1 1 [.int .i64 x.price] rfl rfl ?c1 ?c2 ?c3 ?c4 ?c5 ?_)
          case c1 =>
            intro j u hu
            match j, hu with
            | 0, hu => rw [addr_add, cell_of_row _ _ _ _ _ _ (heap_alloc_new wq _)]; simpa using hu
          case c2 => intro u hu; rw [List.mem_singleton.1 hu]; rfl
          case c3 => unfold maxLen; omega
          case c4 => omega
          case c5 => have := HW.out.2.size; simp; omega
          intro v1 w1 hown1 hg1 _
          have hB1 : Hid (Below w.heap.size w w1) := Below.grown (HW.out.2.alloc HW.out.2.size _) hg1 (by have := HW.out.2.size; simp; omega) (fun k hk => (HW.out.1.lt k hk).1)
          have hA1 : Aside (w1.ownsRow w.heap.size 2 1 v1 (prs (sideL sd (M.take (k + 1)))).length (iV (prs (sideL sd (M.take (k + 1)))))) := by
            rw [HS2.out, List.length_append, iV_snoc]; exact hown1
          clear hg1 hown1 HW
          go_wp2_with fail
          go_roundg (n - (k + 1))
          case measure => omega
          case rel => exact ⟨k + 1, by go_num, by omega, by omega, hA1, hB1⟩
        · obtain ⟨g2, c2, y, rfl, hm, hy, hcy⟩ := last_at hown.out e2
          have hm0 : 0 < P.length := List.length_pos_iff.2 e2
          obtain ⟨m, em⟩ : ∃ m, P.length = m := ⟨_, rfl⟩
          have HPl := Lib.hid em
          rw [em] at hm0 hll hcy hown ⊢
          have hmz : ((m : Int) == 0) = false := by simp; omega
          have hm1 : IntKind.i64.wrap ((m : Int) - 1) = ((m - 1 : Nat) : Int) := by rw [IntKind.wrap_i64]; omega
          have hm2 : ((m - 1 : Nat) : Int) < (m : Int) := by omega
          have hm3 : (0 : Int) ≤ ((m - 1 : Nat) : Int) := by omega
          have hm4 : (((m - 1 : Nat) : Int)).toNat = m - 1 := by omega
          have hm5 : (m : Int) - 1 = ((m - 1 : Nat) : Int) := by omega
          clear em hm
          by_cases e3 : y = x.price
          · have f3 : (y == x.price) = true := by simp [e3]
            have f4 : (y != x.price) = false := by simp [e3]
            have HS2 : Hid (prs (sideL sd (M.take (k + 1))) = P) := Lib.hid (by rw [HS.out, hy, e3, if_pos rfl])
            have hA1 : Aside (wr.ownsRow w.heap.size 2 1 (.slice (some ⟨g2, 0, none⟩) m c2) (prs (sideL sd (M.take (k + 1)))).length (iV (prs (sideL sd (M.take (k + 1)))))) := by rw [HS2.out, HPl.out]; exact hown.out
            clear e3 hy HS hown e2
            have HPQ : Hid ((prs (sideL sd (M.take (k + 1)))).length = m) := Lib.hid (by rw [HS2.out, HPl.out])
            go_wp2_with fail
            go_quiet (fail)
            have hA2 : Aside ((wr.drewN nq).ownsRow w.heap.size 2 1 (.slice (some ⟨g2, 0, none⟩) m c2) (prs (sideL sd (M.take (k + 1)))).length (iV (prs (sideL sd (M.take (k + 1)))))) := hA1.out
            have hB2 : Hid (Below w.heap.size w (wr.drewN nq)) := Lib.hid (below_drewN hd.out nq)
            clear hA1
            go_wp2_with fail
            go_roundg (n - (k + 1))
            case measure => omega
            case rel => exact ⟨k + 1, by go_num, by omega, by omega, hA2, hB2⟩
          · have f3 : (y == x.price) = false := by simp [e3]
            have f4 : (y != x.price) = true := by simp [e3]
            have HS2 : Hid (prs (sideL sd (M.take (k + 1))) = P ++ [x.price]) := Lib.hid (by rw [HS.out, hy, if_neg (fun h => e3 (by injection h))])
            clear e3 hy e2
            have HAQ : Hid (∀ q, (wr.drewN q).ownsRow w.heap.size 2 1 (.slice (some ⟨g2, 0, none⟩) m c2) m (iV P) ∧ Below w.heap.size w (wr.drewN q)) := Lib.hid (fun q => ⟨hown.out, below_drewN hd.out q⟩)
            have hbl : m ≤ 1000 := by omega
            clear HS hll hown hd
            go_wp2_with fail
            go_quiet (fail)
            have HW := Lib.hid (HAQ.out nq)
            have q0 : (wr.drewN nq).cell? ⟨wb, 0, none⟩ = some (.slice (some ⟨g, 0, none⟩) n c) := (HR.out _ HW.out.2).2.1
            have q3 : (wr.drewN nq).cell? ⟨g, k * 6 + 3, none⟩ = some (.int .i64 x.price) := x3
            clear HAQ x0 x1 x2 x3 x4 x5 c0
            generalize wr.drewN nq = wq at HW q0 q3 ⊢
            go_wp2_with (at_builtin; refine wpList_append_own _ rfl _ _ 60 rfl w.heap.size 2 i0 (.int .i64 0) 1 8 Tryz.underlying60 hi0 hz0 hz1 hz2 rfl (by decide) _ _ _ rfl (HW.out.1.alloc _) ⟨wq.heap.size, 0, none⟩ 1 1 [.int .i64 x.price] rfl rfl ?c1 ?c2 ?c3 ?c4 ?c5 ?_)
            case c1 =>
              intro j u hu
              match j, hu with
              | 0, hu => rw [addr_add, cell_of_row _ _ _ _ _ _ (heap_alloc_new wq _)]; simpa using hu
            case c2 => intro u hu; rw [List.mem_singleton.1 hu]; rfl
            case c3 => unfold maxLen; omega
            case c4 => omega
            case c5 => have := HW.out.2.size; simp; omega
            intro v1 w1 hown1 hg1 _
            have hB1 : Hid (Below w.heap.size w w1) := Below.grown (HW.out.2.alloc HW.out.2.size _) hg1 (by have := HW.out.2.size; simp; omega) (fun k hk => (HW.out.1.lt k hk).1)
            have hA1 : Aside (w1.ownsRow w.heap.size 2 1 v1 (prs (sideL sd (M.take (k + 1)))).length (iV (prs (sideL sd (M.take (k + 1)))))) := by
              rw [HS2.out, List.length_append, iV_snoc, HPl.out]; exact hown1
            clear hg1 hown1 HW
            go_wp2_with fail
            go_roundg (n - (k + 1))
            case measure => omega
            case rel => exact ⟨k + 1, by go_num, by omega, by omega, hA1, hB1⟩
      · have f1 : (x.side == sd) = false := by simp [e1]
        have HS : Hid (prs (sideL sd (M.take (k + 1))) = P) := Lib.hid (by rw [hs.out, f1, HPP.out]; rfl)
        have hA1 := hown
        rw [← HS.out] at hA1
        clear hs e1 hll hown
        go_wp2_with fail
        go_quiet (fail)
        have hA2 : Aside ((wr.drewN nq).ownsRow w.heap.size 2 1 _ (prs (sideL sd (M.take (k + 1)))).length (iV (prs (sideL sd (M.take (k + 1)))))) := hA1.out
        have hB2 : Hid (Below w.heap.size w (wr.drewN nq)) := Lib.hid (below_drewN hd.out nq)
        clear hA1
        go_wp2_with fail
        go_roundg (n - (k + 1))
        case measure => omega
        case rel => exact ⟨k + 1, by go_num, by omega, by omega, hA2, hB2⟩
    · have hltI : ¬ (k : Int) < (n : Int) := by omega
      have h := hown.out
      rw [List.take_of_length_le (by rw [HM.out]; omega)] at h
      have hF := Lib.hid (And.intro h hd.out)
      clear hown h
      go_wp2_with fail
      go_ret
      exact ⟨_, rfl, hF⟩

structure ClI (w wr : World) (p m : Nat) (t1 t2 : Sd) (A : Option Addr) (n : Nat) (L : List Od) (k : Nat) : Prop where
  wh : Whole wr p m t1 t2
  perm : (bookL t1.rs t2.rs).Perm (L.take k)
  od : Ods wr A n L
  nf : ∀ b off, A = some ⟨b, off, none⟩ → ¬ foot (some ⟨p, 0, none⟩) (some m) t1 t2 b
  be : Below w.heap.size w wr
  lo : ∀ j, foot (some ⟨p, 0, none⟩) (some m) t1 t2 j → w.heap.size ≤ j
theorem ods_fr {S : Nat → Prop} {w w' : World} {A : Option Addr} {n : Nat} {L : List Od} (h : Ods w A n L) (hf : Fr S w w') (hn : ∀ b off, A = some ⟨b, off, none⟩ → ¬ S b) : Ods w' A n L := by
  obtain ⟨h1, h2, h3, h4⟩ := h
  refine ⟨h1, h2, h3, ?_⟩
  rcases h4 with h0 | ⟨b, off, rfl, hlt, hc⟩
  · exact .inl h0
  · have e : ∀ o, w'.cell? ⟨b, o, none⟩ = w.cell? ⟨b, o, none⟩ := fun o => World.cell?_of_block (w := w) (a := ⟨b, o, none⟩) (hf.block b hlt (hn b off rfl))
    refine .inr ⟨b, off, rfl, Nat.lt_of_lt_of_le hlt hf.size, fun i hi => ?_⟩
    have := hc i hi
    unfold Od.at at this ⊢
    simpa only [e] using this
theorem ClI.below {w wr w' : World} {p m n k : Nat} {t1 t2 : Sd} {A : Option Addr} {L : List Od} (h : ClI w wr p m t1 t2 A n L k) (hb : Below wr.heap.size wr w') : ClI w w' p m t1 t2 A n L k :=
  ⟨h.wh.below hb, h.perm, h.od.below hb, h.nf, h.be.trans (hb.mono h.be.size), h.lo⟩
theorem ClI.put {w wr w' : World} {p m n k : Nat} {t1 t2 t1' t2' : Sd} {A : Option Addr} {L : List Od} (h : ClI w wr p m t1 t2 A n L k) (hk : k < L.length) (hP : PutIs wr w' p m t1 t2 t1' t2' (L[k]!)) : ClI w w' p m t1' t2' A n L (k + 1) := by
  refine ⟨hP.wh, ?_, ods_fr h.od hP.fr (fun b off e hf => h.nf b off e hf), fun b off e hf => ?_, h.be.trans (hP.fr.below h.lo h.be.size), fun j hj => ?_⟩
  · rw [List.take_succ_eq_append_getElem hk, ← getElem!_pos L k hk]
    exact hP.perm.trans ((List.Perm.cons _ h.perm).trans (List.perm_append_comm (l₁ := [_]) (l₂ := L.take k)))
  · rcases hP.ft b hf with h' | h'
    · exact h.nf b off e h'
    · rcases h.od.2.2.2 with h0 | ⟨b', off', e', hlt, _⟩
      · have := h.od.1; omega
      · rw [e] at e'; injection e' with e'; injection e' with e' _ _; omega
  · rcases hP.ft j hj with h' | h'
    · exact h.lo j h'
    · exact Nat.le_trans h.be.size h'

def Trn (W W' : World) (p m : Nat) (s1 s2 s1' s2' : Sd) : Prop :=
  Whole W' p m s1' s2' ∧ Fr (foot (some ⟨p, 0, none⟩) (some m) s1 s2) W W' ∧ ∀ k, foot (some ⟨p, 0, none⟩) (some m) s1' s2' k → foot (some ⟨p, 0, none⟩) (some m) s1 s2 k ∨ W.heap.size ≤ k
structure Pl (w W : World) (p m : Nat) (s1 s2 : Sd) (wb : Nat) (M : List Od) : Prop where
  wh : Whole W p m s1 s2
  rb : RB W wb M
  be : Below w.heap.size w W
  lo : ∀ k, foot (some ⟨p, 0, none⟩) (some m) s1 s2 k → w.heap.size ≤ k
  low : w.heap.size ≤ wb
section
variable {w W W' : World} {p m wb : Nat} {s1 s2 s1' s2' : Sd} {M M' : List Od}
theorem Pl.below (h : Pl w W p m s1 s2 wb M) (hb : Below W.heap.size W W') : Pl w W' p m s1 s2 wb M := ⟨h.wh.below hb, rb_low h.rb hb, h.be.trans (hb.mono h.be.size), h.lo, h.low⟩
theorem Pl.ref (h : Pl w W p m s1 s2 wb M) (hr : RB W' wb M') (hf : Fr (fun k => k = wb) W W') : Pl w W' p m s1 s2 wb M' :=
  ⟨whole_rb h.rb h.wh hf, hr, h.be.trans (hf.below (fun j hj => by subst hj; exact h.low) h.be.size), h.lo, h.low⟩
theorem trn_same (H : Whole W p m s1 s2) (hb : Below W.heap.size W W') : Trn W W' p m s1 s2 s1 s2 := ⟨H.below hb, Fr.of_below hb, fun _ h => .inl h⟩
end

theorem get_same {id : Int} {M : List Od} {r : Option Od} (hi : M.Pairwise (fun x y => ¬ x.id = y.id)) (h : GetIs id M r) : r = getO id M := by
  unfold getO
  cases r with
  | none =>
    rw [if_neg]
    intro hl
    exact h _ (by rw [getElem!_pos M _ hl]; exact List.getElem_mem hl) (idx_get hl)
  | some x =>
    have hl := idx_some h.1 h.2
    rw [if_pos hl]
    congr 1
    exact ids_inj hi h.1 (by rw [getElem!_pos M _ hl]; exact List.getElem_mem hl) (h.2.trans (idx_get hl).symm)
theorem idx_of {id : Int} {M : List Od} {x : Od} (hi : M.Pairwise (fun x y => ¬ x.id = y.id)) (hx : x ∈ M) (he : x.id = id) : idxN id M < M.length ∧ M[idxN id M]! = x := by
  have hl := idx_some hx he
  exact ⟨hl, ids_inj hi (by rw [getElem!_pos M _ hl]; exact List.getElem_mem hl) hx ((idx_get hl).trans he.symm)⟩
theorem get_some {id : Int} {M : List Od} {x : Od} (hi : M.Pairwise (fun x y => ¬ x.id = y.id)) (hx : x ∈ M) (he : x.id = id) : getO id M = some x := by
  obtain ⟨h1, h2⟩ := idx_of hi hx he
  unfold getO
  rw [if_pos h1, h2]
theorem get_none {id : Int} {M : List Od} (h : ∀ x ∈ M, ¬ x.id = id) : getO id M = none := by
  unfold getO
  rw [if_neg]
  intro hl
  exact h _ (by rw [getElem!_pos M _ hl]; exact List.getElem_mem hl) (idx_get hl)
theorem erase_none {id : Int} {M : List Od} (h : ∀ x ∈ M, ¬ x.id = id) : M.eraseIdx (idxN id M) = M := by
  rw [idx_none h]; exact List.eraseIdx_of_length_le (Nat.le_refl _)
theorem take_same {w w' : World} {p m : Nat} {s1 s2 s1' s2' : Sd} {o : Od} {id : Int} (H : Whole w p m s1 s2) (k : TakeIs w w' p m s1 s2 s1' s2' o) (ho : o ∈ bookL s1.rs s2.rs) (he : o.id = id) : (bookL s1.rs s2.rs).eraseIdx (idxN id (bookL s1.rs s2.rs)) = bookL s1'.rs s2'.rs := by
  obtain ⟨h1, h2⟩ := idx_of H.ids ho he
  have hp := era_perm h1 h2
  refine uniq ?_ ?_ k.tu.wh.pw
  · exact (List.Perm.cons_inv (hp.symm.trans k.perm))
  · exact H.pw.sublist (List.eraseIdx_sublist _ _)
theorem cut_same {w w' : World} {p m : Nat} {s1 s2 s1' s2' : Sd} {id qty c : Int} (H : Whole w p m s1 s2) (k : CutIs w w' p m s1 s2 s1' s2' id qty c) : (cutR id qty (bookL s1.rs s2.rs)) = (c, bookL s1'.rs s2'.rs) ∧ Trn w w' p m s1 s2 s1' s2' := by
  rcases k with ⟨rfl, hno, rfl, rfl, hb⟩ | ⟨o, ho, hid, k⟩
  · refine ⟨?_, trn_same H hb⟩
    unfold cutR
    rw [if_neg]
    rw [idx_none hno]; exact Nat.lt_irrefl _
  · obtain ⟨h1, h2⟩ := idx_of H.ids ho hid
    rw [cutR_some rfl h1, h2]
    rcases k with ⟨rfl, hq, rfl, rfl, hb⟩ | ⟨rfl, hq, he, ht⟩ | ⟨rfl, hq, hl, ht⟩
    · exact ⟨if_pos hq, trn_same H hb⟩
    · rw [if_neg (by omega), if_pos he]
      exact ⟨by rw [take_same H ht ho hid], ht.tu.wh, ht.tu.fr, ht.tu.ft⟩
    · rw [if_neg (by omega), if_neg (by omega)]
      refine ⟨?_, ht.tu.wh, ht.tu.fr, ht.tu.ft⟩
      rw [ht.now]
      congr 1
      have e : bookL s1.rs s2.rs = (bookL s1.rs s2.rs).take (idxN id (bookL s1.rs s2.rs)) ++ o :: (bookL s1.rs s2.rs).drop (idxN id (bookL s1.rs s2.rs) + 1) := by
        have h3 : o = (bookL s1.rs s2.rs)[idxN id (bookL s1.rs s2.rs)]'h1 := by rw [← h2, getElem!_pos (bookL s1.rs s2.rs) _ h1]
        rw [h3, ← List.drop_eq_getElem_cons h1, List.take_append_drop]
      have h4 := less_map (P := (bookL s1.rs s2.rs).take (idxN id (bookL s1.rs s2.rs))) (T := (bookL s1.rs s2.rs).drop (idxN id (bookL s1.rs s2.rs) + 1)) (o := o) (qty := qty) (by rw [← e]; exact H.ids)
      rw [← e] at h4
      rw [h4, List.set_eq_take_append_cons_drop, if_pos h1]
theorem filt_none {s p : Int} : ∀ {R : List Rw}, (∀ r ∈ R, ∀ x ∈ r.q, x.side = s ∧ x.price = r.pr) → (∀ r ∈ R, ¬ r.pr = p) → (flatR R).filter (fun x => x.price == p) = [] := by
  intro R hm h
  rw [List.filter_eq_nil_iff]
  intro x hx
  obtain ⟨r, hr, hx⟩ := List.mem_flatMap.1 hx
  have := (hm r hr x hx).2
  have h2 := h r hr
  simp only [beq_iff_eq]
  rw [this]; exact h2
theorem bet_ne {s a b : Int} (h : betN s a b = true) : ¬ a = b := by
  intro e
  subst e
  rw [bet_irr] at h
  cases h
theorem lev_same {w : World} {p m : Nat} {s1 s2 : Sd} (H : Whole w p m s1 s2) (sd pr : Int) : levQ sd pr (rsOf s1 s2 sd) = levL sd pr (bookL s1.rs s2.rs) := by
  have e1 : levL sd pr (bookL s1.rs s2.rs) = (sideL sd (bookL s1.rs s2.rs)).filter (fun x => x.price == pr) := by
    unfold levL sideL
    rw [List.filter_filter]
    congr 1
    funext x
    exact Bool.and_comm _ _
  rw [e1, sideL_book H sd]
  rcases rs_ok H sd with h | ⟨hs, h⟩
  · rw [h]; rfl
  · obtain ⟨h1, h2, h3, h4⟩ := row_split (p := pr) hs h.rows
    unfold levQ
    generalize rsOf s1 s2 sd = R at *
    have e2 : flatR R = flatR (R.take (atN sd pr R)) ++ flatR (R.drop (atN sd pr R)) := by
      unfold flatR
      rw [← List.flatMap_append, List.take_append_drop]
    have e3 : (flatR (R.take (atN sd pr R))).filter (fun x => x.price == pr) = [] := filt_none (s := sd) (fun r hr => h.mem r (List.mem_of_mem_take hr)) (fun r hr => bet_ne (h1 r hr))
    rw [e2, List.filter_append, e3, List.nil_append]
    by_cases hi : atN sd pr R < R.length
    · have e4 : R.drop (atN sd pr R) = R[atN sd pr R]! :: R.drop (atN sd pr R + 1) := by rw [getElem!_pos R _ hi]; exact List.drop_eq_getElem_cons hi
      have hm4 : ∀ r ∈ R[atN sd pr R]! :: R.drop (atN sd pr R + 1), r ∈ R := fun r hr => List.mem_of_mem_drop (by rw [e4]; exact hr)
      by_cases hp : (R[atN sd pr R]!).pr = pr
      · rw [if_pos ⟨hi, hp⟩, e4]
        have h5 := h4 _ _ e4 hp
        have e5 : (flatR (R.drop (atN sd pr R + 1))).filter (fun x => x.price == pr) = [] := filt_none (s := sd) (fun r hr => h.mem r (hm4 r (List.mem_cons_of_mem _ hr))) (fun r hr e => bet_ne (h5 r hr) e.symm)
        show _ = ((R[atN sd pr R]!).q ++ flatR (R.drop (atN sd pr R + 1))).filter _
        rw [List.filter_append, e5, List.append_nil, List.filter_eq_self.2]
        intro x hx
        have := (h.mem _ (hm4 _ List.mem_cons_self) x hx).2
        simp only [beq_iff_eq]
        rw [this]; exact hp
      · rw [if_neg (fun hh => hp hh.2), e4]
        have h5 := h3 _ _ e4 hp
        exact (filt_none (s := sd) (fun r hr => h.mem r (hm4 r hr)) (fun r hr e => bet_ne (h5 r hr) e.symm)).symm
    · rw [if_neg (fun hh => hi hh.1), List.drop_of_length_le (by omega)]
      rfl
end Go.Proofs.YtpigkmfegmfelaaGreat
