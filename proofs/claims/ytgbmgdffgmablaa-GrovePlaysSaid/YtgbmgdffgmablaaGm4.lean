/- RbA RbB LdW LdX GyA GyB GyC GyP Gop GyD GyE, in one text. (By mkgm.py.) -/
import Derived.Test.YtgbmgdffgmablaaGm1
import Derived.Maps.AppendAt
import Derived.Test.YtgbmgdffgmablaaGm3
import Derived.OpenShut
import Derived.Deep.Slices
import Derived.Deep.Fields
import Derived.ChangeSame

/- The reference's book: Sorted in a row of its own; At. (By mkrb.py.) -/
namespace Go.Proofs.Ytgbmgdffgmablaa
open Go.RowKit Go.Sort Go.Lib Go.Shelf

set_option maxHeartbeats 4000000 in
set_option maxRecDepth 1000000 in
theorem rSortedO_c (A : Option Addr) (n c : Nat) (L : List Od) (w : World) (H : Ods w A n L) (hn : n ≤ 1000) :
    Calls Try.prog 40 #[.slice A n c] w fun e w' => ∃ A c, e = .returned (.slice A L.length c) ∧ Hid (Below w.heap.size w w' ∧ w'.ownsRow w.heap.size 50 6 (.slice A L.length c) L.length (ol (sortO L))) := by
  obtain ⟨i0, hi0, hz0, hz1, hz2⟩ := info_parts info_ro
  have HO : Aside (Ods w A n L) := H
  have HLn := Lib.hid H.1
  clear H
  have hown0 : (w.alloc (Obj.cells #[] 50)).ownsRow w.heap.size 50 6 (.slice (some ⟨w.heap.size, 0, none⟩) 0 0) 0 [] :=
    ⟨rfl, .inr ⟨w.heap.size, 0, #[], rfl, Nat.le_refl _, heap_alloc_new w _, Nat.le_refl _, Nat.zero_le _, rfl, rfl⟩⟩
  have B0 : Hid (Below w.heap.size w (w.alloc (Obj.cells #[] 50))) := (Below.refl _ _).alloc (Nat.le_refl _) _
  have HS1 := Lib.hid (rSide_c A n c 1 L _ (HO.out.below B0.out) hn)
  go_enter Try.func40, Try.ntmps40
  go_wp2_with ((with_reducible refine (HS1.out).mono ?_); rintro e w1 ⟨A1, n1, c1, rfl, HF1⟩)
  have HO1 : Aside (Ods w1 A1 n1 ((fz 1 L).map Prod.fst)) := by
    show Ods _ _ _ _
    rw [fz_fst]; exact HF1.out.2.1
  have hn1 : n1 ≤ n := by
    have h1 := HF1.out.2.1.1
    have h2 := fil_le 1 L
    have h3 := HLn.out
    omega
  have B1 : Hid (Below w.heap.size w w1) := B0.out.trans (HF1.out.1.mono B0.out.size)
  have hown1 := own_fr (S := fun _ => False) hown0 (Fr.of_below HF1.out.1) (fun _ _ h => h)
  refine (rSorted1_c A1 n1 c1 (fz 1 L) w1 HO1.out (by omega) HF1.out.2.2.1 (fz_sel (.inl rfl) L)).mono ?_
  rintro e w2 ⟨O1, p1, s1, A2, n2, c2, rfl, HF2⟩
  have hown2 := own_fr (S := fun _ => False) hown1 (Fr.of_below HF2.out.1) (fun _ _ h => h)
  have B2 : Hid (Below w.heap.size w w2) := B1.out.trans (HF2.out.1.mono B1.out.size)
  have HO2 : Aside (Ods w2 A2 n2 (O1.map Prod.fst)) := HF2.out.2.1
  have P1 : Hid (O1.Perm (fz 1 L) ∧ O1.Pairwise (fun x y => ltR ltO y x = false)) := ⟨p1, s1⟩
  have hc2 : CapOk A2 n2 c2 := HF2.out.2.2
  have hn2 : n2 ≤ n := by
    have h1 := HO2.out.1
    have h2 := p1.length_eq
    have h3 := fil_le 1 L
    rw [← fz_fst] at h3
    rw [List.length_map] at h1 h3
    have h4 := HLn.out
    omega
  clear p1 s1 HF1 HF2 HO1 hown0 hown1 B0 B1 HS1 hn1
  have hs2 := B2.out.size
  go_wp2_with (at_builtin; refine append_row rfl _ _ rfl w.heap.size _ _ _ rfl hown2 A2 n2 c2 _ rfl HO2.out hc2 (by omega) hs2 ?_)
  intro v1 w3 hown3 b3
  have B3 : Hid (Below w.heap.size w w3) := B2.out.trans b3
  have HS2 := Lib.hid (rSide_c A n c 2 L w3 (HO.out.below B3.out) hn)
  clear b3 hown2 HO2 hc2 B2 hs2
  go_wp2_with fail
  refine HS2.out.mono ?_
  rintro e w4 ⟨A3, n3, c3, rfl, HF3⟩
  have HO3 : Aside (Ods w4 A3 n3 ((fz 2 L).map Prod.fst)) := by
    show Ods _ _ _ _
    rw [fz_fst]; exact HF3.out.2.1
  have hn3 : n3 ≤ n := by
    have h1 := HF3.out.2.1.1
    have h2 := fil_le 2 L
    have h3 := HLn.out
    omega
  have B4 : Hid (Below w.heap.size w w4) := B3.out.trans (HF3.out.1.mono B3.out.size)
  have hown4 := own_fr (S := fun _ => False) hown3 (Fr.of_below HF3.out.1) (fun _ _ h => h)
  have HC2 := Lib.hid (rSorted1_c A3 n3 c3 (fz 2 L) w4 HO3.out (by omega) HF3.out.2.2.1 (fz_sel (.inr rfl) L))
  clear hown3 B3 HS2 HO3 HF3
  go_wp2_with fail
  refine HC2.out.mono ?_
  rintro e w5 ⟨O2, p2, s2, A4, n4, c4, rfl, HF4⟩
  have hown5 := own_fr (S := fun _ => False) hown4 (Fr.of_below HF4.out.1) (fun _ _ h => h)
  have B5 : Hid (Below w.heap.size w w5) := B4.out.trans (HF4.out.1.mono B4.out.size)
  have HO4 : Aside (Ods w5 A4 n4 (O2.map Prod.fst)) := HF4.out.2.1
  have P2 : Hid (O2.Perm (fz 2 L) ∧ O2.Pairwise (fun x y => ltR ltO y x = false)) := ⟨p2, s2⟩
  have hc4 : CapOk A4 n4 c4 := HF4.out.2.2
  have hn4 : n4 ≤ n := by
    have h1 := HO4.out.1
    have h2 := p2.length_eq
    have h3 := fil_le 2 L
    rw [← fz_fst] at h3
    rw [List.length_map] at h1 h3
    have h4 := HLn.out
    omega
  clear p2 s2 HF4 hown4 B4 HC2 hn3
  have hs5 := B5.out.size
  go_wp2_with (at_builtin; refine append_row rfl _ _ rfl w.heap.size _ _ _ rfl hown5 A4 n4 c4 _ rfl HO4.out hc4 (by omega) hs5 ?_)
  intro v2 w6 hown6 b6
  have B6 : Hid (Below w.heap.size w w6) := B5.out.trans b6
  have HS3 := Lib.hid (rSide_c A n c 0 L w6 (HO.out.below B6.out) hn)
  clear b6 hown5 HO4 hc4 B5 hs5
  go_wp2_with fail
  refine HS3.out.mono ?_
  rintro e w7 ⟨A5, n5, c5, rfl, HF5⟩
  have hown7 := own_fr (S := fun _ => False) hown6 (Fr.of_below HF5.out.1) (fun _ _ h => h)
  have B7 : Hid (Below w.heap.size w w7) := B6.out.trans (HF5.out.1.mono B6.out.size)
  have HO5 : Aside (Ods w7 A5 n5 (L.filter (ofO 0))) := HF5.out.2.1
  have hc5 : CapOk A5 n5 c5 := HF5.out.2.2
  have hn5 : n5 ≤ n := by
    have h1 := HO5.out.1
    have h2 := fil_le 0 L
    have h3 := HLn.out
    omega
  clear HF5 hown6 B6 HS3
  have hs7 := B7.out.size
  go_wp2_with (at_builtin; refine append_row rfl _ _ rfl w.heap.size _ _ _ rfl hown7 A5 n5 c5 _ rfl HO5.out hc5 (by omega) hs7 ?_)
  intro v3 w8 hown8 b8
  have B8 : Hid (Below w.heap.size w w8) := B7.out.trans b8
  have e8 : [] ++ ol (O1.map Prod.fst) ++ ol (O2.map Prod.fst) ++ ol (L.filter (ofO 0)) = ol (sortO L) := by
    rw [sortO_sides P1.out.1 P1.out.2 P2.out.1 P2.out.2, List.nil_append]
    unfold ol
    rw [List.flatMap_append, List.flatMap_append]
  have e9 : ol (O1.map Prod.fst) ++ ol (O2.map Prod.fst) ++ ol (L.filter (ofO 0)) = ol (sortO L) := by rw [← e8, List.nil_append]
  obtain ⟨m8, hm8⟩ : ∃ m, m = n2 + n4 + n5 := ⟨_, rfl⟩
  have hown9 : w8.ownsRow w.heap.size 50 6 v3 m8 (ol (sortO L)) := by
    rw [← e9, hm8]
    simpa using hown8
  have h8 : m8 ≤ 1000 := by
    have h1 := hown9.1
    rw [ol_len, sortO_len, HLn.out] at h1
    omega
  have hm9 : m8 = L.length := by
    have h1 := hown9.1
    rw [ol_len, sortO_len] at h1
    omega
  subst hm9
  obtain ⟨A8, c8, rfl, _⟩ := own_que2 hown9
  have HF : Hid (Below w.heap.size w w8 ∧ w8.ownsRow w.heap.size 50 6 (.slice A8 L.length c8) L.length (ol (sortO L))) := ⟨B8.out, hown9⟩
  clear hown9 hown8 b8 hown7 HO5 hc5 B7 B8 hm8 e8 e9 hs7 P1 P2
  go_wp2_with fail
  go_ret
  exact ⟨A8, c8, rfl, HF⟩

/-- The reference's book, as it lies. -/
def RB (W : World) (wb : Nat) (M : List Od) : Prop := ∃ A c, Cl 48 W wb #[.slice A M.length c] ∧ W.ownsRow 0 50 6 (.slice A M.length c) M.length (ol M)
/-- The place of an ID. -/
def idxN (id : Int) (M : List Od) : Nat := M.findIdx (fun x => x.id == id)
def atI (id : Int) (M : List Od) : Int := if idxN id M < M.length then (idxN id M : Int) else -1
theorem idx_at {id : Int} {M : List Od} {i : Nat} (hi : i < M.length) (hn : ∀ k, k < i → ¬ (M[k]!).id = id) (he : (M[i]!).id = id) : idxN id M = i := by
  unfold idxN
  rw [List.findIdx_eq hi]
  refine ⟨?_, fun j hj => ?_⟩
  · rw [getElem!_pos M i hi] at he
    simp [he]
  · have := hn j hj
    rw [getElem!_pos M j (by omega)] at this
    simp [this]
theorem idx_none {id : Int} {M : List Od} (hn : ∀ x ∈ M, ¬ x.id = id) : idxN id M = M.length := by
  unfold idxN
  rw [List.findIdx_eq_length]
  intro x hx
  simp [hn x hx]
theorem idx_get {id : Int} {M : List Od} (h : idxN id M < M.length) : (M[idxN id M]!).id = id := by
  rw [getElem!_pos M _ h]
  have := List.findIdx_getElem (w := h)
  exact eq_of_beq this
theorem idx_some {id : Int} {M : List Od} {x : Od} (hx : x ∈ M) (he : x.id = id) : idxN id M < M.length := by
  unfold idxN
  rw [List.findIdx_lt_length]
  exact ⟨x, hx, by simp [he]⟩
set_option maxHeartbeats 4000000 in
set_option maxRecDepth 100000 in
theorem rAt_c (wb : Nat) (id : Int) (M : List Od) (w : World) (H : RB w wb M) (hn : M.length ≤ 1000) :
    Calls Try.prog 39 #[.pointer (some ⟨wb, 0, none⟩), .int .u64 id] w fun e w' => e = .returned (.int .i64 (atI id M)) ∧ w' = w := by
  obtain ⟨A, c, hc, hr⟩ := H
  have c0 : w.cell? ⟨wb, 0, none⟩ = some (.slice A M.length c) := (hc.c 0).trans rfl
  obtain ⟨A', c', hv, hq⟩ := own_que hr
  injection hv with e1 _ _
  subst e1
  have HQ := Lib.hid hq.2
  obtain ⟨n, hl⟩ : ∃ n, M.length = n := ⟨_, rfl⟩
  obtain ⟨R, hR⟩ : ∃ R, atI id M = R := ⟨_, rfl⟩
  have HR := Lib.hid hR
  have HM := Lib.hid hl
  rw [hl] at c0 HQ hn
  rw [hR]
  clear hc hr hq hl hR
  go_enter Try.func39, Try.ntmps39
  go_wp2_with fail
  go_loopw [5] (fun s wr => ∃ i : Nat, s = .int .i64 (i : Int) ∧ wr = w ∧ Hid (i ≤ n ∧ ∀ k, k < i → ¬ (M[k]!).id = id)) (fun s _ => match s with | .int _ z => n - z.toNat | _ => 0)
  case atStart => exact ⟨0, rfl, rfl, Nat.zero_le _, fun k hk => absurd hk (Nat.not_lt_zero _)⟩
  case round =>
    obtain ⟨i, rfl, rfl, hd⟩ := hrel
    by_cases hi : i < n
    · obtain ⟨g, rfl, hg⟩ : ∃ g, A = some ⟨g, 0, none⟩ ∧ (M[i]!).at wr g (i * 6) := by
        rcases HQ.out with h0 | ⟨g, h1, _, h3⟩
        · omega
        · exact ⟨g, h1, h3 i hi⟩
      have hid0 := hg.1
      obtain ⟨y, hy⟩ : ∃ y, (M[i]!).id = y := ⟨_, rfl⟩
      rw [hy] at hid0
      have hiI : (i : Int) < (n : Int) := by omega
      have Hi := Lib.hid (And.intro hi hy)
      have hw9 : IntKind.i64.wrap ((i : Int) + 1) = ((i + 1 : Nat) : Int) := by rw [IntKind.wrap_i64]; omega
      clear hg hy hi
      by_cases he : y = id
      · have eb : (y == id) = true := by simp [he]
        have hz : R = (i : Int) := by
          have h1 := idx_at (id := id) (M := M) (i := i) (by rw [HM.out]; exact Hi.out.1) hd.out.2 (by rw [Hi.out.2]; exact he)
          rw [← HR.out]
          unfold atI
          rw [h1, if_pos (by rw [HM.out]; exact Hi.out.1)]
        subst hz
        clear he
        go_wp2_with fail
        go_ret
        exact ⟨rfl, rfl⟩
      · have eb : (y == id) = false := by simp [he]
        have He := Lib.hid he
        clear he
        go_wp2_with fail
        refine ⟨⟨i + 1, rfl, (by first | rfl | trivial), Hi.out.1, fun k hk => ?_⟩, less_left Hi.out.1⟩
        rcases Nat.lt_succ_iff_lt_or_eq.1 hk with h | h
        · exact hd.out.2 k h
        · rw [h, Hi.out.2]; exact He.out
    · have hiI : ¬ (i : Int) < (n : Int) := by omega
      have hz : R = -1 := by
        rw [← HR.out]
        unfold atI
        rw [if_neg]
        rw [idx_none (none_there HM.out hi hd.out.2)]
        omega
      subst hz
      clear hi
      go_wp2_with fail
      go_ret
      first | exact ⟨rfl, rfl⟩ | exact ⟨trivial, rfl⟩
end Go.Proofs.Ytgbmgdffgmablaa

/- The reference's Add. (By mkrb.py.) -/
namespace Go.Proofs.Ytgbmgdffgmablaa
open Go.RowKit Go.Sort Go.Lib Go.Shelf

theorem step_append {P : Program} {ops : Array Oper} {o : Oper} {a : Act} {w : World} {K : Act → World → Prop} {Q : Exit → Act → World → Prop} {E : Prop}
    (hg : o.guard = none) (s x : Operand) (t : TypeId) (hop : o.op = Op.call { callee := Callee.builtin Builtin.append, args := #[s, x], argTypes := #[t, t] })
    (v u : Value) (hs : a.eval s = v) (hx : a.eval x = u) {v' : Value} {w' : World} (hr : (Builtin.append_ #[t, t] o.type #[v, u]).run P w = .ok v' w') (hK : K (a.put o.dst v') w') :
    if Region.wanted o (yielded ops a.tmps) = true then Oper.wp P o a w K Q else E := by
  have hw : Region.wanted o (yielded ops a.tmps) = true := by simp [Region.wanted, hg]
  rw [if_pos hw]
  unfold Oper.wp
  simp [execOp, hop, resolve, invoke, builtin, hs, hx, hr, Result.andThen]
  exact hK
/-- append of a row of the reference's orders, nil or not. -/
theorem run_app (W : World) (base : Nat) (ty : TypeId) (v : Value) (n : Nat) (xs : List Value) (hown : W.ownsRow base 50 6 v n xs) (A : Option Addr) (m c : Nat) (L : List Od) (hs : W.ownsRow 0 50 6 (.slice A m c) m (ol L)) (hb : n + m ≤ 3000) (hbase : base ≤ W.heap.size) :
    ∃ v' w', (Builtin.append_ #[46, 46] ty #[v, .slice A m c]).run Try.prog W = .ok v' w' ∧ w'.ownsRow base 50 6 v' (n + m) (xs ++ ol L) ∧ W.grownBy w' v.ownBlock ∧ (v'.ownBlock = v.ownBlock ∨ v'.ownBlock = some W.heap.size) := by
  obtain ⟨i0, hi0, hz0, hz1, hz2⟩ := info_parts info_ro
  rcases hs.2 with ⟨hv, h0⟩ | ⟨k, cap, cur, hv, _, hk, _, _, _, ht⟩
  · have hL : L = [] := by have := hs.1; rw [ol_len, h0] at this; exact List.length_eq_zero_iff.1 (by omega)
    rw [hv, h0, hL]
    have hrun := run_append_owned_none (P := Try.prog) (w := W) base 46 ty _ i0 6 Try.underlying46 hi0 v n xs hown
    exact ⟨v, W, hrun, by simpa [ol] using hown, World.grownBy.refl _ _, .inl rfl⟩
  · injection hv with e1 e2 e3
    subst e1
    obtain ⟨v', w', h1, h2, h3, _, h5⟩ := run_append_own_at (P := Try.prog) W base 46 ty _ i0 (.agg (OC ⟨0, 0, 0, 0, 0, 0⟩)) 6 48 Try.underlying46 hi0 hz0 hz1 hz2 rfl (by decide) v n xs hown ⟨k, 0, none⟩ m c (ol L) hs.1 (fun j u hj => by
      rw [addr_add, Nat.zero_add, cell_of_row _ _ _ _ _ _ hk]
      rw [← ht, List.getElem?_take] at hj
      split at hj
      · rw [Array.getElem?_toList] at hj; exact hj
      · cases hj) (ol_one _) (by unfold maxLen; omega) (by omega) hbase
    exact ⟨v', w', h1, h2, h3, h5⟩
theorem own_one {W : World} {vb : Nat} {o : Od} (h : Cl 50 W vb (OC o)) : W.ownsRow 0 50 6 (.slice (some ⟨vb, 0, none⟩) 1 1) 1 (ol [o]) :=
  ⟨rfl, .inr ⟨vb, 1, OC o, rfl, Nat.zero_le _, h, Nat.le_refl _, by unfold maxLen; omega, rfl, rfl⟩⟩
theorem below_own {w W w' : World} {T : TypeId} {v : Value} {n size : Nat} {xs : List Value} (hb : Below w.heap.size w W) (ho : W.ownsRow w.heap.size T size v n xs) (hg : W.grownBy w' v.ownBlock) : Below w.heap.size w w' :=
  hb.trans (Below.grown ((Below.refl _ _).mono hb.size) hg hb.size (fun k hk => (ho.lt k hk).1))
theorem own_low {w W : World} {base n size : Nat} {T : TypeId} {v : Value} {xs : List Value} (h : w.ownsRow base T size v n xs) (hb : Below w.heap.size w W) : W.ownsRow base T size v n xs := own_fr h (S := fun _ => False) (Fr.of_below hb) (fun _ _ h => h)
/-- What the reference's Add tells, and leaves. -/
def RAdd (w w' : World) (wb : Nat) (M M' : List Od) (o : Od) (c : Int) : Prop :=
  RB w' wb M' ∧ Fr (fun k => k = wb) w w' ∧ ((goodO o = false ∧ c = 2 ∧ M' = M) ∨ (goodO o = true ∧ c = 52 ∧ (∃ x ∈ M, x.id = o.id) ∧ M' = M) ∨
    (goodO o = true ∧ (∀ x ∈ M, ¬ x.id = o.id) ∧ ((64 ≤ M.length ∧ c = 50 ∧ M' = M) ∨ (M.length < 64 ∧ c = 0 ∧ M' = sortO (M ++ [o])))))
theorem radd_end {w w1 y2 y3 : World} {wb c : Nat} {A A3 : Option Addr} {c3 : Nat} {M : List Od} {o : Od} (hc : Cl 48 y3 wb #[.slice A M.length c]) (hb : y3.ownsRow y2.heap.size 50 6 (.slice A3 (M.length + 1) c3) (M.length + 1) (ol (sortO (M ++ [o])))) (h1 : Below w.heap.size w w1) (hb3 : Below w1.heap.size w1 y3) :
    RB (y3.setCell ⟨wb, 0, none⟩ (.slice A3 (M.length + 1) c3)) wb (sortO (M ++ [o])) ∧ Fr (fun k => k = wb) w (y3.setCell ⟨wb, 0, none⟩ (.slice A3 (M.length + 1) c3)) := by
  have hl : (sortO (M ++ [o])).length = M.length + 1 := by rw [sortO_len, List.length_append]; rfl
  refine ⟨⟨A3, c3, ?_, ?_⟩, ?_⟩
  · rw [hl]; exact (heap_set hc).trans rfl
  · rw [hl]
    refine own_fr (own_base hb (Nat.zero_le _)) ((Fr.refl (fun k => k = wb) y3).set (p := ⟨wb, 0, none⟩) (.inl rfl) _) (fun k hk e => ?_)
    subst e
    exact own_ne hb hc (by decide) hk
  · exact ((Fr.of_below (h1.trans (hb3.mono h1.size)) : Fr (fun k => k = wb) w y3)).set (p := ⟨wb, 0, none⟩) (.inl rfl) _
set_option maxHeartbeats 4000000 in
set_option maxRecDepth 100000 in
theorem radd_bad (wb : Nat) (M : List Od) (o : Od) (w : World) (H : RB w wb M) (hn : M.length ≤ 1000) (hg : goodO o = false) :
    Calls Try.prog 19 #[.pointer (some ⟨wb, 0, none⟩), (.agg #[.int .u64 o.id, .int .i64 o.acc, .int .i64 o.side, .int .i64 o.price, .int .i64 o.qty, .int .u64 o.seq])] w fun e w' => ∃ c M', e = .returned (.int .i64 c) ∧ Hid (RAdd w w' wb M M' o c) := by
  have mixed : Try.prog.follows .mixedOrders = true := by kernel_rfl
  obtain ⟨A, c, hcl, hrw⟩ := H
  have HH : Hid (∀ W, Below w.heap.size w W → RB W wb M) := fun W hW => ⟨A, c, (hW.block _ (blk_lt hcl)).trans hcl, own_low hrw hW⟩
  have HN := Lib.hid hn
  have HC0 : Hid (∀ W, Below w.heap.size w W → W.cell? ⟨wb, 0, none⟩ = some (.slice A M.length c)) := fun W hW => (Cl.c (T := 48) ((hW.block _ (blk_lt hcl)).trans hcl) 0).trans rfl
  have HB0 : Hid (∀ W, Below w.heap.size w W → Cl 48 W wb #[.slice A M.length c]) := fun W hW => (hW.block _ (blk_lt hcl)).trans hcl
  have HR0 : Hid (∀ W, Below w.heap.size w W → W.ownsRow 0 50 6 (.slice A M.length c) M.length (ol M)) := fun W hW => own_low hrw hW
  have hwb := blk_lt hcl
  obtain ⟨w0, hw0⟩ : ∃ w0, w.alloc (.cells #[.int .u64 o.id, .int .i64 o.acc, .int .i64 o.side, .int .i64 o.price, .int .i64 o.qty, .int .u64 o.seq] 50) = w0 := ⟨_, rfl⟩
  have B0 : Below w.heap.size w w0 := by rw [← hw0]; exact (Below.refl _ _).alloc (Nat.le_refl _) _
  have hO0 : Cl 50 w0 w.heap.size (OC o) := by rw [← hw0]; exact hd_last rfl
  have HG : Hid (∀ W, Calls Try.prog 38 #[(.agg #[.int .u64 o.id, .int .i64 o.acc, .int .i64 o.side, .int .i64 o.price, .int .i64 o.qty, .int .u64 o.seq])] W fun e w' => e = .returned (.bool (goodO o)) ∧ Gw W w') := fun W => rGood_c o W
  have HAt : Hid (∀ W, Below w.heap.size w W → Calls Try.prog 39 #[.pointer (some ⟨wb, 0, none⟩), .int .u64 o.id] W fun e w' => e = .returned (.int .i64 (atI o.id M)) ∧ w' = W) := fun W hW => rAt_c wb o.id M W (HH.out W hW) hn
  obtain ⟨x0, x1, x2, x3, x4, x5⟩ := six_of hO0
  obtain ⟨ob, hob⟩ : ∃ ob, w.heap.size = ob := ⟨_, rfl⟩
  rw [hob] at hO0 x0 x1 x2 x3 x4 x5 hwb
  have HOB := Lib.hid (And.intro hob hwb)
  have HB0' := Lib.hid B0
  rw [hg] at HG
  clear hcl hrw hwb B0
  go_enter Try.func19, Try.ntmps19
  go_wp2_with (first | ((with_reducible refine (HG.out _).mono ?_); rintro e w1 ⟨rfl, k1⟩; have hO1 : Cl 50 w1 ob (OC o) := hO0.gw k1; have HB1 : Hid (Below w.heap.size w w1) := HB0'.out.trans (k1.b.mono HB0'.out.size); obtain ⟨y0, y1, y2, y3, y4, y5⟩ := six_of hO1; clear x0 x1 x2 x3 x4 x5 HG HB0' k1 hO0))
  go_ret
  exact ⟨2, M, rfl, Lib.hid ⟨HH.out _ HB1.out, Fr.of_below HB1.out, .inl ⟨hg, rfl, rfl⟩⟩⟩
set_option maxHeartbeats 4000000 in
set_option maxRecDepth 100000 in
theorem radd_there (wb : Nat) (M : List Od) (o : Od) (w : World) (H : RB w wb M) (hn : M.length ≤ 1000) (hg : goodO o = true) (x : Od) (hx : x ∈ M) (hxi : x.id = o.id) :
    Calls Try.prog 19 #[.pointer (some ⟨wb, 0, none⟩), (.agg #[.int .u64 o.id, .int .i64 o.acc, .int .i64 o.side, .int .i64 o.price, .int .i64 o.qty, .int .u64 o.seq])] w fun e w' => ∃ c M', e = .returned (.int .i64 c) ∧ Hid (RAdd w w' wb M M' o c) := by
  have mixed : Try.prog.follows .mixedOrders = true := by kernel_rfl
  obtain ⟨A, c, hcl, hrw⟩ := H
  have HH : Hid (∀ W, Below w.heap.size w W → RB W wb M) := fun W hW => ⟨A, c, (hW.block _ (blk_lt hcl)).trans hcl, own_low hrw hW⟩
  have HN := Lib.hid hn
  have HC0 : Hid (∀ W, Below w.heap.size w W → W.cell? ⟨wb, 0, none⟩ = some (.slice A M.length c)) := fun W hW => (Cl.c (T := 48) ((hW.block _ (blk_lt hcl)).trans hcl) 0).trans rfl
  have HB0 : Hid (∀ W, Below w.heap.size w W → Cl 48 W wb #[.slice A M.length c]) := fun W hW => (hW.block _ (blk_lt hcl)).trans hcl
  have HR0 : Hid (∀ W, Below w.heap.size w W → W.ownsRow 0 50 6 (.slice A M.length c) M.length (ol M)) := fun W hW => own_low hrw hW
  have hwb := blk_lt hcl
  obtain ⟨w0, hw0⟩ : ∃ w0, w.alloc (.cells #[.int .u64 o.id, .int .i64 o.acc, .int .i64 o.side, .int .i64 o.price, .int .i64 o.qty, .int .u64 o.seq] 50) = w0 := ⟨_, rfl⟩
  have B0 : Below w.heap.size w w0 := by rw [← hw0]; exact (Below.refl _ _).alloc (Nat.le_refl _) _
  have hO0 : Cl 50 w0 w.heap.size (OC o) := by rw [← hw0]; exact hd_last rfl
  have HG : Hid (∀ W, Calls Try.prog 38 #[(.agg #[.int .u64 o.id, .int .i64 o.acc, .int .i64 o.side, .int .i64 o.price, .int .i64 o.qty, .int .u64 o.seq])] W fun e w' => e = .returned (.bool (goodO o)) ∧ Gw W w') := fun W => rGood_c o W
  have HAt : Hid (∀ W, Below w.heap.size w W → Calls Try.prog 39 #[.pointer (some ⟨wb, 0, none⟩), .int .u64 o.id] W fun e w' => e = .returned (.int .i64 (atI o.id M)) ∧ w' = W) := fun W hW => rAt_c wb o.id M W (HH.out W hW) hn
  obtain ⟨x0, x1, x2, x3, x4, x5⟩ := six_of hO0
  obtain ⟨ob, hob⟩ : ∃ ob, w.heap.size = ob := ⟨_, rfl⟩
  rw [hob] at hO0 x0 x1 x2 x3 x4 x5 hwb
  have HOB := Lib.hid (And.intro hob hwb)
  have HB0' := Lib.hid B0
  rw [hg] at HG
  have hi := idx_some hx hxi
  have ha : atI o.id M = ((idxN o.id M : Nat) : Int) := by unfold atI; rw [if_pos hi]
  rw [ha] at HAt
  obtain ⟨i, hi'⟩ : ∃ i, idxN o.id M = i := ⟨_, rfl⟩
  rw [hi'] at HAt
  clear hi ha hi'
  clear hcl hrw hwb B0
  go_enter Try.func19, Try.ntmps19
  go_wp2_with (first | ((with_reducible refine (HG.out _).mono ?_); rintro e w1 ⟨rfl, k1⟩; have hO1 : Cl 50 w1 ob (OC o) := hO0.gw k1; have HB1 : Hid (Below w.heap.size w w1) := HB0'.out.trans (k1.b.mono HB0'.out.size); obtain ⟨y0, y1, y2, y3, y4, y5⟩ := six_of hO1; clear x0 x1 x2 x3 x4 x5 HG HB0' k1 hO0) | ((with_reducible refine (HAt.out _ HB1.out).mono ?_); rintro e w2 ⟨rfl, hw2⟩; have hw3 := hw2.symm; subst hw3; clear HAt))
  go_ret
  exact ⟨52, M, rfl, Lib.hid ⟨HH.out _ HB1.out, Fr.of_below HB1.out, .inr (.inl ⟨hg, rfl, ⟨x, hx, hxi⟩, rfl⟩)⟩⟩
set_option maxHeartbeats 4000000 in
set_option maxRecDepth 100000 in
theorem radd_full (wb : Nat) (M : List Od) (o : Od) (w : World) (H : RB w wb M) (hn : M.length ≤ 1000) (hg : goodO o = true) (hid : ∀ x ∈ M, ¬ x.id = o.id) (hl : 64 ≤ M.length) :
    Calls Try.prog 19 #[.pointer (some ⟨wb, 0, none⟩), (.agg #[.int .u64 o.id, .int .i64 o.acc, .int .i64 o.side, .int .i64 o.price, .int .i64 o.qty, .int .u64 o.seq])] w fun e w' => ∃ c M', e = .returned (.int .i64 c) ∧ Hid (RAdd w w' wb M M' o c) := by
  have mixed : Try.prog.follows .mixedOrders = true := by kernel_rfl
  obtain ⟨A, c, hcl, hrw⟩ := H
  have HH : Hid (∀ W, Below w.heap.size w W → RB W wb M) := fun W hW => ⟨A, c, (hW.block _ (blk_lt hcl)).trans hcl, own_low hrw hW⟩
  have HN := Lib.hid hn
  have HC0 : Hid (∀ W, Below w.heap.size w W → W.cell? ⟨wb, 0, none⟩ = some (.slice A M.length c)) := fun W hW => (Cl.c (T := 48) ((hW.block _ (blk_lt hcl)).trans hcl) 0).trans rfl
  have HB0 : Hid (∀ W, Below w.heap.size w W → Cl 48 W wb #[.slice A M.length c]) := fun W hW => (hW.block _ (blk_lt hcl)).trans hcl
  have HR0 : Hid (∀ W, Below w.heap.size w W → W.ownsRow 0 50 6 (.slice A M.length c) M.length (ol M)) := fun W hW => own_low hrw hW
  have hwb := blk_lt hcl
  obtain ⟨w0, hw0⟩ : ∃ w0, w.alloc (.cells #[.int .u64 o.id, .int .i64 o.acc, .int .i64 o.side, .int .i64 o.price, .int .i64 o.qty, .int .u64 o.seq] 50) = w0 := ⟨_, rfl⟩
  have B0 : Below w.heap.size w w0 := by rw [← hw0]; exact (Below.refl _ _).alloc (Nat.le_refl _) _
  have hO0 : Cl 50 w0 w.heap.size (OC o) := by rw [← hw0]; exact hd_last rfl
  have HG : Hid (∀ W, Calls Try.prog 38 #[(.agg #[.int .u64 o.id, .int .i64 o.acc, .int .i64 o.side, .int .i64 o.price, .int .i64 o.qty, .int .u64 o.seq])] W fun e w' => e = .returned (.bool (goodO o)) ∧ Gw W w') := fun W => rGood_c o W
  have HAt : Hid (∀ W, Below w.heap.size w W → Calls Try.prog 39 #[.pointer (some ⟨wb, 0, none⟩), .int .u64 o.id] W fun e w' => e = .returned (.int .i64 (atI o.id M)) ∧ w' = W) := fun W hW => rAt_c wb o.id M W (HH.out W hW) hn
  obtain ⟨x0, x1, x2, x3, x4, x5⟩ := six_of hO0
  obtain ⟨ob, hob⟩ : ∃ ob, w.heap.size = ob := ⟨_, rfl⟩
  rw [hob] at hO0 x0 x1 x2 x3 x4 x5 hwb
  have HOB := Lib.hid (And.intro hob hwb)
  have HB0' := Lib.hid B0
  rw [hg] at HG
  have ha : atI o.id M = -1 := by unfold atI; rw [idx_none hid, if_neg (Nat.lt_irrefl _)]
  rw [ha] at HAt
  clear ha
  have hlI : (64 : Int) ≤ (M.length : Int) := by omega
  clear hcl hrw hwb B0
  go_enter Try.func19, Try.ntmps19
  go_wp2_with (first | ((with_reducible refine (HG.out _).mono ?_); rintro e w1 ⟨rfl, k1⟩; have hO1 : Cl 50 w1 ob (OC o) := hO0.gw k1; have HB1 : Hid (Below w.heap.size w w1) := HB0'.out.trans (k1.b.mono HB0'.out.size); obtain ⟨y0, y1, y2, y3, y4, y5⟩ := six_of hO1; clear x0 x1 x2 x3 x4 x5 HG HB0' k1 hO0) | ((with_reducible refine (HAt.out _ HB1.out).mono ?_); rintro e w2 ⟨rfl, hw2⟩; have hw3 := hw2.symm; subst hw3; have zc := HC0.out _ HB1.out; clear HAt))
  go_ret
  exact ⟨50, M, rfl, Lib.hid ⟨HH.out _ HB1.out, Fr.of_below HB1.out, .inr (.inr ⟨hg, hid, .inl ⟨hl, rfl, rfl⟩⟩)⟩⟩
set_option maxHeartbeats 4000000 in
set_option maxRecDepth 100000 in
theorem radd_put (wb : Nat) (M : List Od) (o : Od) (w : World) (H : RB w wb M) (hn : M.length ≤ 1000) (hok : ∀ x ∈ M, Od.ok w x) (ho : Od.ok w o) (hg : goodO o = true) (hid : ∀ x ∈ M, ¬ x.id = o.id) (hl : M.length < 64) :
    Calls Try.prog 19 #[.pointer (some ⟨wb, 0, none⟩), (.agg #[.int .u64 o.id, .int .i64 o.acc, .int .i64 o.side, .int .i64 o.price, .int .i64 o.qty, .int .u64 o.seq])] w fun e w' => ∃ c M', e = .returned (.int .i64 c) ∧ Hid (RAdd w w' wb M M' o c) := by
  have mixed : Try.prog.follows .mixedOrders = true := by kernel_rfl
  obtain ⟨A, c, hcl, hrw⟩ := H
  have HH : Hid (∀ W, Below w.heap.size w W → RB W wb M) := fun W hW => ⟨A, c, (hW.block _ (blk_lt hcl)).trans hcl, own_low hrw hW⟩
  have HN := Lib.hid hn
  have HC0 : Hid (∀ W, Below w.heap.size w W → W.cell? ⟨wb, 0, none⟩ = some (.slice A M.length c)) := fun W hW => (Cl.c (T := 48) ((hW.block _ (blk_lt hcl)).trans hcl) 0).trans rfl
  have HB0 : Hid (∀ W, Below w.heap.size w W → Cl 48 W wb #[.slice A M.length c]) := fun W hW => (hW.block _ (blk_lt hcl)).trans hcl
  have HR0 : Hid (∀ W, Below w.heap.size w W → W.ownsRow 0 50 6 (.slice A M.length c) M.length (ol M)) := fun W hW => own_low hrw hW
  have hwb := blk_lt hcl
  obtain ⟨w0, hw0⟩ : ∃ w0, w.alloc (.cells #[.int .u64 o.id, .int .i64 o.acc, .int .i64 o.side, .int .i64 o.price, .int .i64 o.qty, .int .u64 o.seq] 50) = w0 := ⟨_, rfl⟩
  have B0 : Below w.heap.size w w0 := by rw [← hw0]; exact (Below.refl _ _).alloc (Nat.le_refl _) _
  have hO0 : Cl 50 w0 w.heap.size (OC o) := by rw [← hw0]; exact hd_last rfl
  have HG : Hid (∀ W, Calls Try.prog 38 #[(.agg #[.int .u64 o.id, .int .i64 o.acc, .int .i64 o.side, .int .i64 o.price, .int .i64 o.qty, .int .u64 o.seq])] W fun e w' => e = .returned (.bool (goodO o)) ∧ Gw W w') := fun W => rGood_c o W
  have HAt : Hid (∀ W, Below w.heap.size w W → Calls Try.prog 39 #[.pointer (some ⟨wb, 0, none⟩), .int .u64 o.id] W fun e w' => e = .returned (.int .i64 (atI o.id M)) ∧ w' = W) := fun W hW => rAt_c wb o.id M W (HH.out W hW) hn
  obtain ⟨x0, x1, x2, x3, x4, x5⟩ := six_of hO0
  obtain ⟨ob, hob⟩ : ∃ ob, w.heap.size = ob := ⟨_, rfl⟩
  rw [hob] at hO0 x0 x1 x2 x3 x4 x5 hwb
  have HOB := Lib.hid (And.intro hob hwb)
  have HB0' := Lib.hid B0
  rw [hg] at HG
  have ha : atI o.id M = -1 := by unfold atI; rw [idx_none hid, if_neg (Nat.lt_irrefl _)]
  rw [ha] at HAt
  clear ha
  have hlI : ¬ (64 : Int) ≤ (M.length : Int) := by omega
  have hlJ : (M.length : Int) < 64 := by omega
  clear hcl hrw hwb B0
  go_enter Try.func19, Try.ntmps19
  go_wp2_with (first | ((with_reducible refine (HG.out _).mono ?_); rintro e w1 ⟨rfl, k1⟩; have hO1 : Cl 50 w1 ob (OC o) := hO0.gw k1; have HB1 : Hid (Below w.heap.size w w1) := HB0'.out.trans (k1.b.mono HB0'.out.size); obtain ⟨y0, y1, y2, y3, y4, y5⟩ := six_of hO1; clear x0 x1 x2 x3 x4 x5 HG HB0' k1 hO0) | ((with_reducible refine (HAt.out _ HB1.out).mono ?_); rintro e w2 ⟨rfl, hw2⟩; have hw3 := hw2.symm; subst hw3; have zc := HC0.out _ HB1.out; clear HAt))
  have hO1' : ob < w1.heap.size := blk_lt hO1
  have HCo : Hid (∀ W, Fr (fun k => k = wb) w1 W → Cl 50 W ob (OC o)) := fun W hW => hW.blk hO1 (fun e => by have := HOB.out.2; omega)
  have HCc : Hid (∀ W, Below w1.heap.size w1 W → W.cell? ⟨wb, 0, none⟩ = some (.slice A M.length c)) := fun W hW => HC0.out W (HB1.out.trans (hW.mono HB1.out.size))
  have HCb : Hid (∀ W, Below w1.heap.size w1 W → Cl 48 W wb #[.slice A M.length c]) := fun W hW => HB0.out W (HB1.out.trans (hW.mono HB1.out.size))
  have HRw : Hid (∀ W, Below w1.heap.size w1 W → W.ownsRow 0 50 6 (.slice A M.length c) M.length (ol M)) := fun W hW => HR0.out W (HB1.out.trans (hW.mono HB1.out.size))
  have HS : Hid (∀ A2 c2 W, W.ownsRow w1.heap.size 50 6 (.slice A2 (M.length + 1) c2) (M.length + 1) (ol (M ++ [o])) → Calls Try.prog 40 #[.slice A2 (M.length + 1) c2] W fun e w' => ∃ A c, e = .returned (.slice A (M.length + 1) c) ∧ Hid (Below W.heap.size W w' ∧ w'.ownsRow W.heap.size 50 6 (.slice A (M.length + 1) c) (M.length + 1) (ol (sortO (M ++ [o]))))) := fun A2 c2 W hW => by
    have hl1 : (M ++ [o]).length = M.length + 1 := by rw [List.length_append]; rfl
    obtain ⟨A4, c4, hv, _, hod⟩ := own_ods hW (by omega) (fun x hx => by
      rcases List.mem_append.1 hx with h | h
      · exact hok x h
      · rw [List.mem_singleton.1 h]; exact ho)
    injection hv with e1 e2 e3
    subst e1
    have := rSortedO_c A2 (M.length + 1) c2 (M ++ [o]) W hod (by omega)
    rwa [hl1] at this
  clear y0 y1 y2 y3 y4 y5 zc HC0 HB0 HR0 hO1
  have hb0 : Below w1.heap.size w1 w1.drew := (Below.refl _ _).drew
  refine wp_region_held_drew (S := fun W => Fr (fun k => k = wb) w1 W) (by kernel_rfl) (Fr.of_below hb0) (fun hHeld => ?_)
  generalize w1.drew = wd at hb0 hHeld ⊢
  refine wpAnyH_take (i := 0) (oi := ⟨some 19, _, _, _, _, _⟩) (v := ?_) rfl (by kernel_rfl) (by kernel_rfl) (by kernel_rfl) (fun _ _ _ h => h) (Or.inl ⟨by kernel_rfl, ?_⟩) (by assumption) ?_
  rotate_left
  · (intro w hSw; obtain ⟨hs0, hs1, hs2, hs3, hs4, hs5⟩ := six_of (HCo.out _ hSw); clear hSw; go_simp; try with_reducible rfl)
  (repeat (first | simp only [Act.put] | simp only [List.setIfInBounds_toArray] | simp only [List.set_cons_succ] | simp only [List.set_cons_zero]))
  refine wpAnyH_take (i := 2) (oi := ⟨some 21, _, _, _, _, _⟩) (v := ?_) rfl (by kernel_rfl) (by kernel_rfl) (by kernel_rfl) (fun _ _ _ h => h) (Or.inl ⟨by kernel_rfl, ?_⟩) (by assumption) ?_
  rotate_left
  · (intro w hSw; obtain ⟨hs0, hs1, hs2, hs3, hs4, hs5⟩ := six_of (HCo.out _ hSw); clear hSw; go_simp; try with_reducible rfl)
  (repeat (first | simp only [Act.put] | simp only [List.setIfInBounds_toArray] | simp only [List.set_cons_succ] | simp only [List.set_cons_zero]))
  refine wpAnyH_take (i := 3) (oi := ⟨some 22, _, _, _, _, _⟩) (v := ?_) rfl (by kernel_rfl) (by kernel_rfl) (by kernel_rfl) (fun _ _ _ h => h) (Or.inl ⟨by kernel_rfl, ?_⟩) (by assumption) ?_
  rotate_left
  · (intro w hSw; obtain ⟨hs0, hs1, hs2, hs3, hs4, hs5⟩ := six_of (HCo.out _ hSw); clear hSw; go_simp; try with_reducible rfl)
  (repeat (first | simp only [Act.put] | simp only [List.setIfInBounds_toArray] | simp only [List.set_cons_succ] | simp only [List.set_cons_zero]))
  refine wpAnyH_take (i := 4) (oi := ⟨some 23, _, _, _, _, _⟩) (v := ?_) rfl (by kernel_rfl) (by kernel_rfl) (by kernel_rfl) (fun _ _ _ h => h) (Or.inl ⟨by kernel_rfl, ?_⟩) (by assumption) ?_
  rotate_left
  · (intro w hSw; obtain ⟨hs0, hs1, hs2, hs3, hs4, hs5⟩ := six_of (HCo.out _ hSw); clear hSw; go_simp; try with_reducible rfl)
  (repeat (first | simp only [Act.put] | simp only [List.setIfInBounds_toArray] | simp only [List.set_cons_succ] | simp only [List.set_cons_zero]))
  refine wpAnyH_take (i := 7) (oi := ⟨some 26, _, _, _, _, _⟩) (v := ?_) rfl (by kernel_rfl) (by kernel_rfl) (by kernel_rfl) (fun _ _ _ h => h) (Or.inl ⟨by kernel_rfl, ?_⟩) (by assumption) ?_
  rotate_left
  · (intro w hSw; obtain ⟨hs0, hs1, hs2, hs3, hs4, hs5⟩ := six_of (HCo.out _ hSw); clear hSw; go_simp; try with_reducible rfl)
  (repeat (first | simp only [Act.put] | simp only [List.setIfInBounds_toArray] | simp only [List.set_cons_succ] | simp only [List.set_cons_zero]))
  refine wpAnyH_ready (rs := [1, 5, 8]) (by kernel_rfl) (by simp) ?_
  refine AllReadyH.cons (o := ⟨some 20, _, _, _, _, _⟩) rfl (fun K hK => ?_) (AllReadyH.cons (o := ⟨some 24, _, _, _, _, _⟩) rfl (fun K hK => ?_) (AllReadyH.cons (o := ⟨some 27, _, _, _, _, _⟩) rfl (fun K hK => ?_) AllReadyH.nil))
  · go_simp
    (try go_wp2_with fail)
    have hb1 : Below w1.heap.size w1 (wd.alloc (.cells #[] 50)) := (hb0).alloc (Below.size hb0) _
    have hE : (wd.alloc (.cells #[] 50)).ownsRow w1.heap.size 50 6 (.slice (some ⟨wd.heap.size, 0, none⟩) 0 0) 0 (ol []) := ⟨rfl, .inr ⟨wd.heap.size, 0, #[], rfl, (by have := Below.size hb0; omega), hd_last (by simp), Nat.le_refl _, Nat.zero_le _, rfl, rfl⟩⟩
    refine hK.out _ _ (by exact Fr.of_below hb1) (fun hHeld => ?_)
    clear hK K
    (repeat (first | simp only [Act.put] | simp only [List.setIfInBounds_toArray] | simp only [List.set_cons_succ] | simp only [List.set_cons_zero]))
    refine wpAnyH_ready (rs := [5, 8]) (by kernel_rfl) (by simp) ?_
    refine AllReadyH.cons (o := ⟨some 24, _, _, _, _, _⟩) rfl (fun K hK => ?_) (AllReadyH.cons (o := ⟨some 27, _, _, _, _, _⟩) rfl (fun K hK => ?_) AllReadyH.nil)
    · have zc := HCc.out _ hb1
      go_simp
      (try go_wp2_with fail)
      clear zc
      have hb2 := hb1
      refine hK.out _ _ (by exact Fr.of_below hb2) (fun hHeld => ?_)
      clear hK K
      (repeat (first | simp only [Act.put] | simp only [List.setIfInBounds_toArray] | simp only [List.set_cons_succ] | simp only [List.set_cons_zero]))
      refine wpAnyH_ready (rs := [6, 8]) (by kernel_rfl) (by simp) ?_
      refine AllReadyH.cons (o := ⟨some 25, _, _, _, _, _⟩) rfl (fun K hK => ?_) (AllReadyH.cons (o := ⟨some 27, _, _, _, _, _⟩) rfl (fun K hK => ?_) AllReadyH.nil)
      · obtain ⟨v1, y1, hr1, hA, hg1, _⟩ := run_app (wd.alloc (.cells #[] 50)) w1.heap.size 46 _ 0 (ol []) hE _ _ _ _ (HRw.out _ hb2) (by have := HN.out; omega) (Below.size hb2)
        rw [Nat.zero_add, show ol [] ++ ol M = ol M from rfl] at hA
        refine step_append rfl _ _ 46 rfl (.slice (some ⟨wd.heap.size, 0, none⟩) 0 0) (.slice A M.length c) rfl rfl hr1 ?_
        have hb3 : Below w1.heap.size w1 y1 := below_own hb2 hE hg1
        refine hK.out _ _ (by exact Fr.of_below hb3) (fun hHeld => ?_)
        clear hK K
        (repeat (first | simp only [Act.put] | simp only [List.setIfInBounds_toArray] | simp only [List.set_cons_succ] | simp only [List.set_cons_zero]))
        refine wpAnyH_ready (rs := [8]) (by kernel_rfl) (by simp) ?_
        refine AllReadyH.cons (o := ⟨some 27, _, _, _, _, _⟩) rfl (fun K hK => ?_) AllReadyH.nil
        go_simp
        (try go_wp2_with fail)
        have hb4 : Below w1.heap.size w1 (y1.alloc (.cells (OC o) 50)) := (hb3).alloc (Below.size hb3) _
        have hV : Cl 50 (y1.alloc (.cells (OC o) 50)) (y1.heap.size) (OC o) := hd_last (by simp)
        replace hA := hA.alloc (.cells (OC o) 50)
        refine hK.out _ _ (by exact Fr.of_below hb4) (fun hHeld => ?_)
        clear hK K
        (repeat (first | simp only [Act.put] | simp only [List.setIfInBounds_toArray] | simp only [List.set_cons_succ] | simp only [List.set_cons_zero]))
        refine wpAnyH_ready (rs := [9]) (by kernel_rfl) (by simp) ?_
        refine AllReadyH.cons (o := ⟨some 28, _, _, _, _, _⟩) rfl (fun K hK => ?_) AllReadyH.nil
        obtain ⟨v2, y2, hr2, hA2, hg2, _⟩ := run_app (y1.alloc (.cells (OC o) 50)) w1.heap.size 46 v1 M.length (ol M) hA (some ⟨y1.heap.size, 0, none⟩) 1 1 [o] (own_one hV) (by have := HN.out; omega) (Below.size hb4)
        refine step_append rfl _ _ 46 rfl v1 (.slice (some ⟨y1.heap.size, 0, none⟩) 1 1) rfl rfl hr2 ?_
        have hbb : Below w1.heap.size w1 y2 := below_own hb4 hA hg2
        obtain ⟨A2, c2, rfl, _⟩ := own_que2 hA2
        rw [← ol_append] at hA2
        refine hK.out _ _ (by exact Fr.of_below hbb) (fun hHeld => ?_)
        clear hK K
        (repeat (first | simp only [Act.put] | simp only [List.setIfInBounds_toArray] | simp only [List.set_cons_succ] | simp only [List.set_cons_zero]))
        refine wpAnyH_ready (rs := [10]) (by kernel_rfl) (by simp) ?_
        refine AllReadyH.cons (o := ⟨some 29, _, _, _, _, _⟩) rfl (fun K hK => ?_) AllReadyH.nil
        go_simp
        refine (HS.out _ _ _ hA2).mono ?_
        rintro e y3 ⟨A3, c3, rfl, hb3⟩
        have hbc : Below w1.heap.size w1 y3 := hbb.trans (hb3.out.1.mono (Below.size hbb))
        refine hK.out _ _ (by exact Fr.of_below hbc) (fun hHeld => ?_)
        clear hK K
        (repeat (first | simp only [Act.put] | simp only [List.setIfInBounds_toArray] | simp only [List.set_cons_succ] | simp only [List.set_cons_zero]))
        refine wpAnyH_take (i := 11) (oi := ⟨some 30, _, _, _, _, _⟩) (v := ?_) rfl (by kernel_rfl) (by kernel_rfl) (by kernel_rfl) (fun _ _ _ h => h) (Or.inl ⟨by kernel_rfl, ?_⟩) (by assumption) ?_
        rotate_left
        · (intro w hSw; obtain ⟨hs0, hs1, hs2, hs3, hs4, hs5⟩ := six_of (HCo.out _ hSw); clear hSw; go_simp; try with_reducible rfl)
        (repeat (first | simp only [Act.put] | simp only [List.setIfInBounds_toArray] | simp only [List.set_cons_succ] | simp only [List.set_cons_zero]))
        refine wpAnyH_take (i := 12) (oi := ⟨some 31, _, _, _, _, _⟩) (v := ?_) rfl (by kernel_rfl) (by kernel_rfl) (by kernel_rfl) (fun _ _ _ h => h) (Or.inl ⟨by kernel_rfl, ?_⟩) (by assumption) ?_
        rotate_left
        · (intro w hSw; obtain ⟨hs0, hs1, hs2, hs3, hs4, hs5⟩ := six_of (HCo.out _ hSw); clear hSw; go_simp; try with_reducible rfl)
        (repeat (first | simp only [Act.put] | simp only [List.setIfInBounds_toArray] | simp only [List.set_cons_succ] | simp only [List.set_cons_zero]))
        refine wpAnyH_ready (rs := [13]) (by kernel_rfl) (by simp) ?_
        refine AllReadyH.cons (o := ⟨none, _, _, _, _, _⟩) rfl (fun K hK => ?_) AllReadyH.nil
        have zc := HCc.out _ hbc
        have zf := (HCb.out _ hbc).f (k := 0)
        go_simp
        (try go_wp2_with fail)
        refine hK.out _ _ (by exact (Fr.of_below hbc : Fr (fun k => k = wb) w1 y3).set (p := ⟨wb, 0, none⟩) (.inl rfl) _) (fun hHeld => ?_)
        clear hK K
        (repeat (first | simp only [Act.put] | simp only [List.setIfInBounds_toArray] | simp only [List.set_cons_succ] | simp only [List.set_cons_zero]))
        refine wpAnyH_done (by kernel_rfl) ?_ _
        have hF := Lib.hid (radd_end (HCb.out _ hbc) hb3.out.2 HB1.out hbc)
        clear hA2 hHeld zc zf hbb hb3
        go_wp2_with fail
        go_ret
        exact ⟨0, _, rfl, Lib.hid ⟨hF.out.1, hF.out.2, .inr (.inr ⟨hg, hid, .inr ⟨hl, rfl, rfl⟩⟩)⟩⟩
      · go_simp
        (try go_wp2_with fail)
        have hb3 : Below w1.heap.size w1 ((wd.alloc (.cells #[] 50)).alloc (.cells (OC o) 50)) := (hb2).alloc (Below.size hb2) _
        have hV : Cl 50 ((wd.alloc (.cells #[] 50)).alloc (.cells (OC o) 50)) (wd.heap.size + 1) (OC o) := hd_last (by simp)
        have hve : wd.heap.size + 1 ≠ wd.heap.size := (by have h := (own_lt hE _ rfl).2; simp only [World.size_alloc] at h; omega)
        replace hE := hE.alloc (.cells (OC o) 50)
        refine hK.out _ _ (by exact Fr.of_below hb3) (fun hHeld => ?_)
        clear hK K
        (repeat (first | simp only [Act.put] | simp only [List.setIfInBounds_toArray] | simp only [List.set_cons_succ] | simp only [List.set_cons_zero]))
        refine wpAnyH_ready (rs := [6]) (by kernel_rfl) (by simp) ?_
        refine AllReadyH.cons (o := ⟨some 25, _, _, _, _, _⟩) rfl (fun K hK => ?_) AllReadyH.nil
        obtain ⟨v1, y1, hr1, hA, hg1, _⟩ := run_app ((wd.alloc (.cells #[] 50)).alloc (.cells (OC o) 50)) w1.heap.size 46 _ 0 (ol []) hE _ _ _ _ (HRw.out _ hb3) (by have := HN.out; omega) (Below.size hb3)
        rw [Nat.zero_add, show ol [] ++ ol M = ol M from rfl] at hA
        refine step_append rfl _ _ 46 rfl (.slice (some ⟨wd.heap.size, 0, none⟩) 0 0) (.slice A M.length c) rfl rfl hr1 ?_
        have hb4 : Below w1.heap.size w1 y1 := below_own hb3 hE hg1
        replace hV : Cl 50 y1 (wd.heap.size + 1) (OC o) := (hg1.block _ (blk_lt hV) (fun e => hve (Option.some.inj e))).trans hV
        refine hK.out _ _ (by exact Fr.of_below hb4) (fun hHeld => ?_)
        clear hK K
        (repeat (first | simp only [Act.put] | simp only [List.setIfInBounds_toArray] | simp only [List.set_cons_succ] | simp only [List.set_cons_zero]))
        refine wpAnyH_ready (rs := [9]) (by kernel_rfl) (by simp) ?_
        refine AllReadyH.cons (o := ⟨some 28, _, _, _, _, _⟩) rfl (fun K hK => ?_) AllReadyH.nil
        obtain ⟨v2, y2, hr2, hA2, hg2, _⟩ := run_app y1 w1.heap.size 46 v1 M.length (ol M) hA (some ⟨wd.heap.size + 1, 0, none⟩) 1 1 [o] (own_one hV) (by have := HN.out; omega) (Below.size hb4)
        refine step_append rfl _ _ 46 rfl v1 (.slice (some ⟨wd.heap.size + 1, 0, none⟩) 1 1) rfl rfl hr2 ?_
        have hbb : Below w1.heap.size w1 y2 := below_own hb4 hA hg2
        obtain ⟨A2, c2, rfl, _⟩ := own_que2 hA2
        rw [← ol_append] at hA2
        refine hK.out _ _ (by exact Fr.of_below hbb) (fun hHeld => ?_)
        clear hK K
        (repeat (first | simp only [Act.put] | simp only [List.setIfInBounds_toArray] | simp only [List.set_cons_succ] | simp only [List.set_cons_zero]))
        refine wpAnyH_ready (rs := [10]) (by kernel_rfl) (by simp) ?_
        refine AllReadyH.cons (o := ⟨some 29, _, _, _, _, _⟩) rfl (fun K hK => ?_) AllReadyH.nil
        go_simp
        refine (HS.out _ _ _ hA2).mono ?_
        rintro e y3 ⟨A3, c3, rfl, hb3⟩
        have hbc : Below w1.heap.size w1 y3 := hbb.trans (hb3.out.1.mono (Below.size hbb))
        refine hK.out _ _ (by exact Fr.of_below hbc) (fun hHeld => ?_)
        clear hK K
        (repeat (first | simp only [Act.put] | simp only [List.setIfInBounds_toArray] | simp only [List.set_cons_succ] | simp only [List.set_cons_zero]))
        refine wpAnyH_take (i := 11) (oi := ⟨some 30, _, _, _, _, _⟩) (v := ?_) rfl (by kernel_rfl) (by kernel_rfl) (by kernel_rfl) (fun _ _ _ h => h) (Or.inl ⟨by kernel_rfl, ?_⟩) (by assumption) ?_
        rotate_left
        · (intro w hSw; obtain ⟨hs0, hs1, hs2, hs3, hs4, hs5⟩ := six_of (HCo.out _ hSw); clear hSw; go_simp; try with_reducible rfl)
        (repeat (first | simp only [Act.put] | simp only [List.setIfInBounds_toArray] | simp only [List.set_cons_succ] | simp only [List.set_cons_zero]))
        refine wpAnyH_take (i := 12) (oi := ⟨some 31, _, _, _, _, _⟩) (v := ?_) rfl (by kernel_rfl) (by kernel_rfl) (by kernel_rfl) (fun _ _ _ h => h) (Or.inl ⟨by kernel_rfl, ?_⟩) (by assumption) ?_
        rotate_left
        · (intro w hSw; obtain ⟨hs0, hs1, hs2, hs3, hs4, hs5⟩ := six_of (HCo.out _ hSw); clear hSw; go_simp; try with_reducible rfl)
        (repeat (first | simp only [Act.put] | simp only [List.setIfInBounds_toArray] | simp only [List.set_cons_succ] | simp only [List.set_cons_zero]))
        refine wpAnyH_ready (rs := [13]) (by kernel_rfl) (by simp) ?_
        refine AllReadyH.cons (o := ⟨none, _, _, _, _, _⟩) rfl (fun K hK => ?_) AllReadyH.nil
        have zc := HCc.out _ hbc
        have zf := (HCb.out _ hbc).f (k := 0)
        go_simp
        (try go_wp2_with fail)
        refine hK.out _ _ (by exact (Fr.of_below hbc : Fr (fun k => k = wb) w1 y3).set (p := ⟨wb, 0, none⟩) (.inl rfl) _) (fun hHeld => ?_)
        clear hK K
        (repeat (first | simp only [Act.put] | simp only [List.setIfInBounds_toArray] | simp only [List.set_cons_succ] | simp only [List.set_cons_zero]))
        refine wpAnyH_done (by kernel_rfl) ?_ _
        have hF := Lib.hid (radd_end (HCb.out _ hbc) hb3.out.2 HB1.out hbc)
        clear hA2 hHeld zc zf hbb hb3
        go_wp2_with fail
        go_ret
        exact ⟨0, _, rfl, Lib.hid ⟨hF.out.1, hF.out.2, .inr (.inr ⟨hg, hid, .inr ⟨hl, rfl, rfl⟩⟩)⟩⟩
    · go_simp
      (try go_wp2_with fail)
      have hb2 : Below w1.heap.size w1 ((wd.alloc (.cells #[] 50)).alloc (.cells (OC o) 50)) := (hb1).alloc (Below.size hb1) _
      have hV : Cl 50 ((wd.alloc (.cells #[] 50)).alloc (.cells (OC o) 50)) (wd.heap.size + 1) (OC o) := hd_last (by simp)
      have hve : wd.heap.size + 1 ≠ wd.heap.size := (by have h := (own_lt hE _ rfl).2; simp only [World.size_alloc] at h; omega)
      replace hE := hE.alloc (.cells (OC o) 50)
      refine hK.out _ _ (by exact Fr.of_below hb2) (fun hHeld => ?_)
      clear hK K
      (repeat (first | simp only [Act.put] | simp only [List.setIfInBounds_toArray] | simp only [List.set_cons_succ] | simp only [List.set_cons_zero]))
      refine wpAnyH_ready (rs := [5]) (by kernel_rfl) (by simp) ?_
      refine AllReadyH.cons (o := ⟨some 24, _, _, _, _, _⟩) rfl (fun K hK => ?_) AllReadyH.nil
      have zc := HCc.out _ hb2
      go_simp
      (try go_wp2_with fail)
      clear zc
      have hb3 := hb2
      refine hK.out _ _ (by exact Fr.of_below hb3) (fun hHeld => ?_)
      clear hK K
      (repeat (first | simp only [Act.put] | simp only [List.setIfInBounds_toArray] | simp only [List.set_cons_succ] | simp only [List.set_cons_zero]))
      refine wpAnyH_ready (rs := [6]) (by kernel_rfl) (by simp) ?_
      refine AllReadyH.cons (o := ⟨some 25, _, _, _, _, _⟩) rfl (fun K hK => ?_) AllReadyH.nil
      obtain ⟨v1, y1, hr1, hA, hg1, _⟩ := run_app ((wd.alloc (.cells #[] 50)).alloc (.cells (OC o) 50)) w1.heap.size 46 _ 0 (ol []) hE _ _ _ _ (HRw.out _ hb3) (by have := HN.out; omega) (Below.size hb3)
      rw [Nat.zero_add, show ol [] ++ ol M = ol M from rfl] at hA
      refine step_append rfl _ _ 46 rfl (.slice (some ⟨wd.heap.size, 0, none⟩) 0 0) (.slice A M.length c) rfl rfl hr1 ?_
      have hb4 : Below w1.heap.size w1 y1 := below_own hb3 hE hg1
      replace hV : Cl 50 y1 (wd.heap.size + 1) (OC o) := (hg1.block _ (blk_lt hV) (fun e => hve (Option.some.inj e))).trans hV
      refine hK.out _ _ (by exact Fr.of_below hb4) (fun hHeld => ?_)
      clear hK K
      (repeat (first | simp only [Act.put] | simp only [List.setIfInBounds_toArray] | simp only [List.set_cons_succ] | simp only [List.set_cons_zero]))
      refine wpAnyH_ready (rs := [9]) (by kernel_rfl) (by simp) ?_
      refine AllReadyH.cons (o := ⟨some 28, _, _, _, _, _⟩) rfl (fun K hK => ?_) AllReadyH.nil
      obtain ⟨v2, y2, hr2, hA2, hg2, _⟩ := run_app y1 w1.heap.size 46 v1 M.length (ol M) hA (some ⟨wd.heap.size + 1, 0, none⟩) 1 1 [o] (own_one hV) (by have := HN.out; omega) (Below.size hb4)
      refine step_append rfl _ _ 46 rfl v1 (.slice (some ⟨wd.heap.size + 1, 0, none⟩) 1 1) rfl rfl hr2 ?_
      have hbb : Below w1.heap.size w1 y2 := below_own hb4 hA hg2
      obtain ⟨A2, c2, rfl, _⟩ := own_que2 hA2
      rw [← ol_append] at hA2
      refine hK.out _ _ (by exact Fr.of_below hbb) (fun hHeld => ?_)
      clear hK K
      (repeat (first | simp only [Act.put] | simp only [List.setIfInBounds_toArray] | simp only [List.set_cons_succ] | simp only [List.set_cons_zero]))
      refine wpAnyH_ready (rs := [10]) (by kernel_rfl) (by simp) ?_
      refine AllReadyH.cons (o := ⟨some 29, _, _, _, _, _⟩) rfl (fun K hK => ?_) AllReadyH.nil
      go_simp
      refine (HS.out _ _ _ hA2).mono ?_
      rintro e y3 ⟨A3, c3, rfl, hb3⟩
      have hbc : Below w1.heap.size w1 y3 := hbb.trans (hb3.out.1.mono (Below.size hbb))
      refine hK.out _ _ (by exact Fr.of_below hbc) (fun hHeld => ?_)
      clear hK K
      (repeat (first | simp only [Act.put] | simp only [List.setIfInBounds_toArray] | simp only [List.set_cons_succ] | simp only [List.set_cons_zero]))
      refine wpAnyH_take (i := 11) (oi := ⟨some 30, _, _, _, _, _⟩) (v := ?_) rfl (by kernel_rfl) (by kernel_rfl) (by kernel_rfl) (fun _ _ _ h => h) (Or.inl ⟨by kernel_rfl, ?_⟩) (by assumption) ?_
      rotate_left
      · (intro w hSw; obtain ⟨hs0, hs1, hs2, hs3, hs4, hs5⟩ := six_of (HCo.out _ hSw); clear hSw; go_simp; try with_reducible rfl)
      (repeat (first | simp only [Act.put] | simp only [List.setIfInBounds_toArray] | simp only [List.set_cons_succ] | simp only [List.set_cons_zero]))
      refine wpAnyH_take (i := 12) (oi := ⟨some 31, _, _, _, _, _⟩) (v := ?_) rfl (by kernel_rfl) (by kernel_rfl) (by kernel_rfl) (fun _ _ _ h => h) (Or.inl ⟨by kernel_rfl, ?_⟩) (by assumption) ?_
      rotate_left
      · (intro w hSw; obtain ⟨hs0, hs1, hs2, hs3, hs4, hs5⟩ := six_of (HCo.out _ hSw); clear hSw; go_simp; try with_reducible rfl)
      (repeat (first | simp only [Act.put] | simp only [List.setIfInBounds_toArray] | simp only [List.set_cons_succ] | simp only [List.set_cons_zero]))
      refine wpAnyH_ready (rs := [13]) (by kernel_rfl) (by simp) ?_
      refine AllReadyH.cons (o := ⟨none, _, _, _, _, _⟩) rfl (fun K hK => ?_) AllReadyH.nil
      have zc := HCc.out _ hbc
      have zf := (HCb.out _ hbc).f (k := 0)
      go_simp
      (try go_wp2_with fail)
      refine hK.out _ _ (by exact (Fr.of_below hbc : Fr (fun k => k = wb) w1 y3).set (p := ⟨wb, 0, none⟩) (.inl rfl) _) (fun hHeld => ?_)
      clear hK K
      (repeat (first | simp only [Act.put] | simp only [List.setIfInBounds_toArray] | simp only [List.set_cons_succ] | simp only [List.set_cons_zero]))
      refine wpAnyH_done (by kernel_rfl) ?_ _
      have hF := Lib.hid (radd_end (HCb.out _ hbc) hb3.out.2 HB1.out hbc)
      clear hA2 hHeld zc zf hbb hb3
      go_wp2_with fail
      go_ret
      exact ⟨0, _, rfl, Lib.hid ⟨hF.out.1, hF.out.2, .inr (.inr ⟨hg, hid, .inr ⟨hl, rfl, rfl⟩⟩)⟩⟩
  · have zc := HCc.out _ hb0
    go_simp
    (try go_wp2_with fail)
    clear zc
    have hb1 := hb0
    refine hK.out _ _ (by exact Fr.of_below hb1) (fun hHeld => ?_)
    clear hK K
    (repeat (first | simp only [Act.put] | simp only [List.setIfInBounds_toArray] | simp only [List.set_cons_succ] | simp only [List.set_cons_zero]))
    refine wpAnyH_ready (rs := [1, 8]) (by kernel_rfl) (by simp) ?_
    refine AllReadyH.cons (o := ⟨some 20, _, _, _, _, _⟩) rfl (fun K hK => ?_) (AllReadyH.cons (o := ⟨some 27, _, _, _, _, _⟩) rfl (fun K hK => ?_) AllReadyH.nil)
    · go_simp
      (try go_wp2_with fail)
      have hb2 : Below w1.heap.size w1 (wd.alloc (.cells #[] 50)) := (hb1).alloc (Below.size hb1) _
      have hE : (wd.alloc (.cells #[] 50)).ownsRow w1.heap.size 50 6 (.slice (some ⟨wd.heap.size, 0, none⟩) 0 0) 0 (ol []) := ⟨rfl, .inr ⟨wd.heap.size, 0, #[], rfl, (by have := Below.size hb0; omega), hd_last (by simp), Nat.le_refl _, Nat.zero_le _, rfl, rfl⟩⟩
      refine hK.out _ _ (by exact Fr.of_below hb2) (fun hHeld => ?_)
      clear hK K
      (repeat (first | simp only [Act.put] | simp only [List.setIfInBounds_toArray] | simp only [List.set_cons_succ] | simp only [List.set_cons_zero]))
      refine wpAnyH_ready (rs := [6, 8]) (by kernel_rfl) (by simp) ?_
      refine AllReadyH.cons (o := ⟨some 25, _, _, _, _, _⟩) rfl (fun K hK => ?_) (AllReadyH.cons (o := ⟨some 27, _, _, _, _, _⟩) rfl (fun K hK => ?_) AllReadyH.nil)
      · obtain ⟨v1, y1, hr1, hA, hg1, _⟩ := run_app (wd.alloc (.cells #[] 50)) w1.heap.size 46 _ 0 (ol []) hE _ _ _ _ (HRw.out _ hb2) (by have := HN.out; omega) (Below.size hb2)
        rw [Nat.zero_add, show ol [] ++ ol M = ol M from rfl] at hA
        refine step_append rfl _ _ 46 rfl (.slice (some ⟨wd.heap.size, 0, none⟩) 0 0) (.slice A M.length c) rfl rfl hr1 ?_
        have hb3 : Below w1.heap.size w1 y1 := below_own hb2 hE hg1
        refine hK.out _ _ (by exact Fr.of_below hb3) (fun hHeld => ?_)
        clear hK K
        (repeat (first | simp only [Act.put] | simp only [List.setIfInBounds_toArray] | simp only [List.set_cons_succ] | simp only [List.set_cons_zero]))
        refine wpAnyH_ready (rs := [8]) (by kernel_rfl) (by simp) ?_
        refine AllReadyH.cons (o := ⟨some 27, _, _, _, _, _⟩) rfl (fun K hK => ?_) AllReadyH.nil
        go_simp
        (try go_wp2_with fail)
        have hb4 : Below w1.heap.size w1 (y1.alloc (.cells (OC o) 50)) := (hb3).alloc (Below.size hb3) _
        have hV : Cl 50 (y1.alloc (.cells (OC o) 50)) (y1.heap.size) (OC o) := hd_last (by simp)
        replace hA := hA.alloc (.cells (OC o) 50)
        refine hK.out _ _ (by exact Fr.of_below hb4) (fun hHeld => ?_)
        clear hK K
        (repeat (first | simp only [Act.put] | simp only [List.setIfInBounds_toArray] | simp only [List.set_cons_succ] | simp only [List.set_cons_zero]))
        refine wpAnyH_ready (rs := [9]) (by kernel_rfl) (by simp) ?_
        refine AllReadyH.cons (o := ⟨some 28, _, _, _, _, _⟩) rfl (fun K hK => ?_) AllReadyH.nil
        obtain ⟨v2, y2, hr2, hA2, hg2, _⟩ := run_app (y1.alloc (.cells (OC o) 50)) w1.heap.size 46 v1 M.length (ol M) hA (some ⟨y1.heap.size, 0, none⟩) 1 1 [o] (own_one hV) (by have := HN.out; omega) (Below.size hb4)
        refine step_append rfl _ _ 46 rfl v1 (.slice (some ⟨y1.heap.size, 0, none⟩) 1 1) rfl rfl hr2 ?_
        have hbb : Below w1.heap.size w1 y2 := below_own hb4 hA hg2
        obtain ⟨A2, c2, rfl, _⟩ := own_que2 hA2
        rw [← ol_append] at hA2
        refine hK.out _ _ (by exact Fr.of_below hbb) (fun hHeld => ?_)
        clear hK K
        (repeat (first | simp only [Act.put] | simp only [List.setIfInBounds_toArray] | simp only [List.set_cons_succ] | simp only [List.set_cons_zero]))
        refine wpAnyH_ready (rs := [10]) (by kernel_rfl) (by simp) ?_
        refine AllReadyH.cons (o := ⟨some 29, _, _, _, _, _⟩) rfl (fun K hK => ?_) AllReadyH.nil
        go_simp
        refine (HS.out _ _ _ hA2).mono ?_
        rintro e y3 ⟨A3, c3, rfl, hb3⟩
        have hbc : Below w1.heap.size w1 y3 := hbb.trans (hb3.out.1.mono (Below.size hbb))
        refine hK.out _ _ (by exact Fr.of_below hbc) (fun hHeld => ?_)
        clear hK K
        (repeat (first | simp only [Act.put] | simp only [List.setIfInBounds_toArray] | simp only [List.set_cons_succ] | simp only [List.set_cons_zero]))
        refine wpAnyH_take (i := 11) (oi := ⟨some 30, _, _, _, _, _⟩) (v := ?_) rfl (by kernel_rfl) (by kernel_rfl) (by kernel_rfl) (fun _ _ _ h => h) (Or.inl ⟨by kernel_rfl, ?_⟩) (by assumption) ?_
        rotate_left
        · (intro w hSw; obtain ⟨hs0, hs1, hs2, hs3, hs4, hs5⟩ := six_of (HCo.out _ hSw); clear hSw; go_simp; try with_reducible rfl)
        (repeat (first | simp only [Act.put] | simp only [List.setIfInBounds_toArray] | simp only [List.set_cons_succ] | simp only [List.set_cons_zero]))
        refine wpAnyH_take (i := 12) (oi := ⟨some 31, _, _, _, _, _⟩) (v := ?_) rfl (by kernel_rfl) (by kernel_rfl) (by kernel_rfl) (fun _ _ _ h => h) (Or.inl ⟨by kernel_rfl, ?_⟩) (by assumption) ?_
        rotate_left
        · (intro w hSw; obtain ⟨hs0, hs1, hs2, hs3, hs4, hs5⟩ := six_of (HCo.out _ hSw); clear hSw; go_simp; try with_reducible rfl)
        (repeat (first | simp only [Act.put] | simp only [List.setIfInBounds_toArray] | simp only [List.set_cons_succ] | simp only [List.set_cons_zero]))
        refine wpAnyH_ready (rs := [13]) (by kernel_rfl) (by simp) ?_
        refine AllReadyH.cons (o := ⟨none, _, _, _, _, _⟩) rfl (fun K hK => ?_) AllReadyH.nil
        have zc := HCc.out _ hbc
        have zf := (HCb.out _ hbc).f (k := 0)
        go_simp
        (try go_wp2_with fail)
        refine hK.out _ _ (by exact (Fr.of_below hbc : Fr (fun k => k = wb) w1 y3).set (p := ⟨wb, 0, none⟩) (.inl rfl) _) (fun hHeld => ?_)
        clear hK K
        (repeat (first | simp only [Act.put] | simp only [List.setIfInBounds_toArray] | simp only [List.set_cons_succ] | simp only [List.set_cons_zero]))
        refine wpAnyH_done (by kernel_rfl) ?_ _
        have hF := Lib.hid (radd_end (HCb.out _ hbc) hb3.out.2 HB1.out hbc)
        clear hA2 hHeld zc zf hbb hb3
        go_wp2_with fail
        go_ret
        exact ⟨0, _, rfl, Lib.hid ⟨hF.out.1, hF.out.2, .inr (.inr ⟨hg, hid, .inr ⟨hl, rfl, rfl⟩⟩)⟩⟩
      · go_simp
        (try go_wp2_with fail)
        have hb3 : Below w1.heap.size w1 ((wd.alloc (.cells #[] 50)).alloc (.cells (OC o) 50)) := (hb2).alloc (Below.size hb2) _
        have hV : Cl 50 ((wd.alloc (.cells #[] 50)).alloc (.cells (OC o) 50)) (wd.heap.size + 1) (OC o) := hd_last (by simp)
        have hve : wd.heap.size + 1 ≠ wd.heap.size := (by have h := (own_lt hE _ rfl).2; simp only [World.size_alloc] at h; omega)
        replace hE := hE.alloc (.cells (OC o) 50)
        refine hK.out _ _ (by exact Fr.of_below hb3) (fun hHeld => ?_)
        clear hK K
        (repeat (first | simp only [Act.put] | simp only [List.setIfInBounds_toArray] | simp only [List.set_cons_succ] | simp only [List.set_cons_zero]))
        refine wpAnyH_ready (rs := [6]) (by kernel_rfl) (by simp) ?_
        refine AllReadyH.cons (o := ⟨some 25, _, _, _, _, _⟩) rfl (fun K hK => ?_) AllReadyH.nil
        obtain ⟨v1, y1, hr1, hA, hg1, _⟩ := run_app ((wd.alloc (.cells #[] 50)).alloc (.cells (OC o) 50)) w1.heap.size 46 _ 0 (ol []) hE _ _ _ _ (HRw.out _ hb3) (by have := HN.out; omega) (Below.size hb3)
        rw [Nat.zero_add, show ol [] ++ ol M = ol M from rfl] at hA
        refine step_append rfl _ _ 46 rfl (.slice (some ⟨wd.heap.size, 0, none⟩) 0 0) (.slice A M.length c) rfl rfl hr1 ?_
        have hb4 : Below w1.heap.size w1 y1 := below_own hb3 hE hg1
        replace hV : Cl 50 y1 (wd.heap.size + 1) (OC o) := (hg1.block _ (blk_lt hV) (fun e => hve (Option.some.inj e))).trans hV
        refine hK.out _ _ (by exact Fr.of_below hb4) (fun hHeld => ?_)
        clear hK K
        (repeat (first | simp only [Act.put] | simp only [List.setIfInBounds_toArray] | simp only [List.set_cons_succ] | simp only [List.set_cons_zero]))
        refine wpAnyH_ready (rs := [9]) (by kernel_rfl) (by simp) ?_
        refine AllReadyH.cons (o := ⟨some 28, _, _, _, _, _⟩) rfl (fun K hK => ?_) AllReadyH.nil
        obtain ⟨v2, y2, hr2, hA2, hg2, _⟩ := run_app y1 w1.heap.size 46 v1 M.length (ol M) hA (some ⟨wd.heap.size + 1, 0, none⟩) 1 1 [o] (own_one hV) (by have := HN.out; omega) (Below.size hb4)
        refine step_append rfl _ _ 46 rfl v1 (.slice (some ⟨wd.heap.size + 1, 0, none⟩) 1 1) rfl rfl hr2 ?_
        have hbb : Below w1.heap.size w1 y2 := below_own hb4 hA hg2
        obtain ⟨A2, c2, rfl, _⟩ := own_que2 hA2
        rw [← ol_append] at hA2
        refine hK.out _ _ (by exact Fr.of_below hbb) (fun hHeld => ?_)
        clear hK K
        (repeat (first | simp only [Act.put] | simp only [List.setIfInBounds_toArray] | simp only [List.set_cons_succ] | simp only [List.set_cons_zero]))
        refine wpAnyH_ready (rs := [10]) (by kernel_rfl) (by simp) ?_
        refine AllReadyH.cons (o := ⟨some 29, _, _, _, _, _⟩) rfl (fun K hK => ?_) AllReadyH.nil
        go_simp
        refine (HS.out _ _ _ hA2).mono ?_
        rintro e y3 ⟨A3, c3, rfl, hb3⟩
        have hbc : Below w1.heap.size w1 y3 := hbb.trans (hb3.out.1.mono (Below.size hbb))
        refine hK.out _ _ (by exact Fr.of_below hbc) (fun hHeld => ?_)
        clear hK K
        (repeat (first | simp only [Act.put] | simp only [List.setIfInBounds_toArray] | simp only [List.set_cons_succ] | simp only [List.set_cons_zero]))
        refine wpAnyH_take (i := 11) (oi := ⟨some 30, _, _, _, _, _⟩) (v := ?_) rfl (by kernel_rfl) (by kernel_rfl) (by kernel_rfl) (fun _ _ _ h => h) (Or.inl ⟨by kernel_rfl, ?_⟩) (by assumption) ?_
        rotate_left
        · (intro w hSw; obtain ⟨hs0, hs1, hs2, hs3, hs4, hs5⟩ := six_of (HCo.out _ hSw); clear hSw; go_simp; try with_reducible rfl)
        (repeat (first | simp only [Act.put] | simp only [List.setIfInBounds_toArray] | simp only [List.set_cons_succ] | simp only [List.set_cons_zero]))
        refine wpAnyH_take (i := 12) (oi := ⟨some 31, _, _, _, _, _⟩) (v := ?_) rfl (by kernel_rfl) (by kernel_rfl) (by kernel_rfl) (fun _ _ _ h => h) (Or.inl ⟨by kernel_rfl, ?_⟩) (by assumption) ?_
        rotate_left
        · (intro w hSw; obtain ⟨hs0, hs1, hs2, hs3, hs4, hs5⟩ := six_of (HCo.out _ hSw); clear hSw; go_simp; try with_reducible rfl)
        (repeat (first | simp only [Act.put] | simp only [List.setIfInBounds_toArray] | simp only [List.set_cons_succ] | simp only [List.set_cons_zero]))
        refine wpAnyH_ready (rs := [13]) (by kernel_rfl) (by simp) ?_
        refine AllReadyH.cons (o := ⟨none, _, _, _, _, _⟩) rfl (fun K hK => ?_) AllReadyH.nil
        have zc := HCc.out _ hbc
        have zf := (HCb.out _ hbc).f (k := 0)
        go_simp
        (try go_wp2_with fail)
        refine hK.out _ _ (by exact (Fr.of_below hbc : Fr (fun k => k = wb) w1 y3).set (p := ⟨wb, 0, none⟩) (.inl rfl) _) (fun hHeld => ?_)
        clear hK K
        (repeat (first | simp only [Act.put] | simp only [List.setIfInBounds_toArray] | simp only [List.set_cons_succ] | simp only [List.set_cons_zero]))
        refine wpAnyH_done (by kernel_rfl) ?_ _
        have hF := Lib.hid (radd_end (HCb.out _ hbc) hb3.out.2 HB1.out hbc)
        clear hA2 hHeld zc zf hbb hb3
        go_wp2_with fail
        go_ret
        exact ⟨0, _, rfl, Lib.hid ⟨hF.out.1, hF.out.2, .inr (.inr ⟨hg, hid, .inr ⟨hl, rfl, rfl⟩⟩)⟩⟩
    · go_simp
      (try go_wp2_with fail)
      have hb2 : Below w1.heap.size w1 (wd.alloc (.cells (OC o) 50)) := (hb1).alloc (Below.size hb1) _
      have hV : Cl 50 (wd.alloc (.cells (OC o) 50)) (wd.heap.size) (OC o) := hd_last (by simp)
      refine hK.out _ _ (by exact Fr.of_below hb2) (fun hHeld => ?_)
      clear hK K
      (repeat (first | simp only [Act.put] | simp only [List.setIfInBounds_toArray] | simp only [List.set_cons_succ] | simp only [List.set_cons_zero]))
      refine wpAnyH_ready (rs := [1]) (by kernel_rfl) (by simp) ?_
      refine AllReadyH.cons (o := ⟨some 20, _, _, _, _, _⟩) rfl (fun K hK => ?_) AllReadyH.nil
      go_simp
      (try go_wp2_with fail)
      have hb3 : Below w1.heap.size w1 ((wd.alloc (.cells (OC o) 50)).alloc (.cells #[] 50)) := (hb2).alloc (Below.size hb2) _
      have hE : ((wd.alloc (.cells (OC o) 50)).alloc (.cells #[] 50)).ownsRow w1.heap.size 50 6 (.slice (some ⟨wd.heap.size + 1, 0, none⟩) 0 0) 0 (ol []) := ⟨rfl, .inr ⟨wd.heap.size + 1, 0, #[], rfl, (by have := Below.size hb0; omega), hd_last (by simp), Nat.le_refl _, Nat.zero_le _, rfl, rfl⟩⟩
      have hve : wd.heap.size ≠ wd.heap.size + 1 := (by have h := blk_lt hV; simp only [World.size_alloc] at h; omega)
      replace hV : Cl 50 ((wd.alloc (.cells (OC o) 50)).alloc (.cells #[] 50)) (wd.heap.size) (OC o) := hd_prev (blk_lt hV) hV
      refine hK.out _ _ (by exact Fr.of_below hb3) (fun hHeld => ?_)
      clear hK K
      (repeat (first | simp only [Act.put] | simp only [List.setIfInBounds_toArray] | simp only [List.set_cons_succ] | simp only [List.set_cons_zero]))
      refine wpAnyH_ready (rs := [6]) (by kernel_rfl) (by simp) ?_
      refine AllReadyH.cons (o := ⟨some 25, _, _, _, _, _⟩) rfl (fun K hK => ?_) AllReadyH.nil
      obtain ⟨v1, y1, hr1, hA, hg1, _⟩ := run_app ((wd.alloc (.cells (OC o) 50)).alloc (.cells #[] 50)) w1.heap.size 46 _ 0 (ol []) hE _ _ _ _ (HRw.out _ hb3) (by have := HN.out; omega) (Below.size hb3)
      rw [Nat.zero_add, show ol [] ++ ol M = ol M from rfl] at hA
      refine step_append rfl _ _ 46 rfl (.slice (some ⟨wd.heap.size + 1, 0, none⟩) 0 0) (.slice A M.length c) rfl rfl hr1 ?_
      have hb4 : Below w1.heap.size w1 y1 := below_own hb3 hE hg1
      replace hV : Cl 50 y1 (wd.heap.size) (OC o) := (hg1.block _ (blk_lt hV) (fun e => hve (Option.some.inj e))).trans hV
      refine hK.out _ _ (by exact Fr.of_below hb4) (fun hHeld => ?_)
      clear hK K
      (repeat (first | simp only [Act.put] | simp only [List.setIfInBounds_toArray] | simp only [List.set_cons_succ] | simp only [List.set_cons_zero]))
      refine wpAnyH_ready (rs := [9]) (by kernel_rfl) (by simp) ?_
      refine AllReadyH.cons (o := ⟨some 28, _, _, _, _, _⟩) rfl (fun K hK => ?_) AllReadyH.nil
      obtain ⟨v2, y2, hr2, hA2, hg2, _⟩ := run_app y1 w1.heap.size 46 v1 M.length (ol M) hA (some ⟨wd.heap.size, 0, none⟩) 1 1 [o] (own_one hV) (by have := HN.out; omega) (Below.size hb4)
      refine step_append rfl _ _ 46 rfl v1 (.slice (some ⟨wd.heap.size, 0, none⟩) 1 1) rfl rfl hr2 ?_
      have hbb : Below w1.heap.size w1 y2 := below_own hb4 hA hg2
      obtain ⟨A2, c2, rfl, _⟩ := own_que2 hA2
      rw [← ol_append] at hA2
      refine hK.out _ _ (by exact Fr.of_below hbb) (fun hHeld => ?_)
      clear hK K
      (repeat (first | simp only [Act.put] | simp only [List.setIfInBounds_toArray] | simp only [List.set_cons_succ] | simp only [List.set_cons_zero]))
      refine wpAnyH_ready (rs := [10]) (by kernel_rfl) (by simp) ?_
      refine AllReadyH.cons (o := ⟨some 29, _, _, _, _, _⟩) rfl (fun K hK => ?_) AllReadyH.nil
      go_simp
      refine (HS.out _ _ _ hA2).mono ?_
      rintro e y3 ⟨A3, c3, rfl, hb3⟩
      have hbc : Below w1.heap.size w1 y3 := hbb.trans (hb3.out.1.mono (Below.size hbb))
      refine hK.out _ _ (by exact Fr.of_below hbc) (fun hHeld => ?_)
      clear hK K
      (repeat (first | simp only [Act.put] | simp only [List.setIfInBounds_toArray] | simp only [List.set_cons_succ] | simp only [List.set_cons_zero]))
      refine wpAnyH_take (i := 11) (oi := ⟨some 30, _, _, _, _, _⟩) (v := ?_) rfl (by kernel_rfl) (by kernel_rfl) (by kernel_rfl) (fun _ _ _ h => h) (Or.inl ⟨by kernel_rfl, ?_⟩) (by assumption) ?_
      rotate_left
      · (intro w hSw; obtain ⟨hs0, hs1, hs2, hs3, hs4, hs5⟩ := six_of (HCo.out _ hSw); clear hSw; go_simp; try with_reducible rfl)
      (repeat (first | simp only [Act.put] | simp only [List.setIfInBounds_toArray] | simp only [List.set_cons_succ] | simp only [List.set_cons_zero]))
      refine wpAnyH_take (i := 12) (oi := ⟨some 31, _, _, _, _, _⟩) (v := ?_) rfl (by kernel_rfl) (by kernel_rfl) (by kernel_rfl) (fun _ _ _ h => h) (Or.inl ⟨by kernel_rfl, ?_⟩) (by assumption) ?_
      rotate_left
      · (intro w hSw; obtain ⟨hs0, hs1, hs2, hs3, hs4, hs5⟩ := six_of (HCo.out _ hSw); clear hSw; go_simp; try with_reducible rfl)
      (repeat (first | simp only [Act.put] | simp only [List.setIfInBounds_toArray] | simp only [List.set_cons_succ] | simp only [List.set_cons_zero]))
      refine wpAnyH_ready (rs := [13]) (by kernel_rfl) (by simp) ?_
      refine AllReadyH.cons (o := ⟨none, _, _, _, _, _⟩) rfl (fun K hK => ?_) AllReadyH.nil
      have zc := HCc.out _ hbc
      have zf := (HCb.out _ hbc).f (k := 0)
      go_simp
      (try go_wp2_with fail)
      refine hK.out _ _ (by exact (Fr.of_below hbc : Fr (fun k => k = wb) w1 y3).set (p := ⟨wb, 0, none⟩) (.inl rfl) _) (fun hHeld => ?_)
      clear hK K
      (repeat (first | simp only [Act.put] | simp only [List.setIfInBounds_toArray] | simp only [List.set_cons_succ] | simp only [List.set_cons_zero]))
      refine wpAnyH_done (by kernel_rfl) ?_ _
      have hF := Lib.hid (radd_end (HCb.out _ hbc) hb3.out.2 HB1.out hbc)
      clear hA2 hHeld zc zf hbb hb3
      go_wp2_with fail
      go_ret
      exact ⟨0, _, rfl, Lib.hid ⟨hF.out.1, hF.out.2, .inr (.inr ⟨hg, hid, .inr ⟨hl, rfl, rfl⟩⟩)⟩⟩
  · go_simp
    (try go_wp2_with fail)
    have hb1 : Below w1.heap.size w1 (wd.alloc (.cells (OC o) 50)) := (hb0).alloc (Below.size hb0) _
    have hV : Cl 50 (wd.alloc (.cells (OC o) 50)) (wd.heap.size) (OC o) := hd_last (by simp)
    refine hK.out _ _ (by exact Fr.of_below hb1) (fun hHeld => ?_)
    clear hK K
    (repeat (first | simp only [Act.put] | simp only [List.setIfInBounds_toArray] | simp only [List.set_cons_succ] | simp only [List.set_cons_zero]))
    refine wpAnyH_ready (rs := [1, 5]) (by kernel_rfl) (by simp) ?_
    refine AllReadyH.cons (o := ⟨some 20, _, _, _, _, _⟩) rfl (fun K hK => ?_) (AllReadyH.cons (o := ⟨some 24, _, _, _, _, _⟩) rfl (fun K hK => ?_) AllReadyH.nil)
    · go_simp
      (try go_wp2_with fail)
      have hb2 : Below w1.heap.size w1 ((wd.alloc (.cells (OC o) 50)).alloc (.cells #[] 50)) := (hb1).alloc (Below.size hb1) _
      have hE : ((wd.alloc (.cells (OC o) 50)).alloc (.cells #[] 50)).ownsRow w1.heap.size 50 6 (.slice (some ⟨wd.heap.size + 1, 0, none⟩) 0 0) 0 (ol []) := ⟨rfl, .inr ⟨wd.heap.size + 1, 0, #[], rfl, (by have := Below.size hb0; omega), hd_last (by simp), Nat.le_refl _, Nat.zero_le _, rfl, rfl⟩⟩
      have hve : wd.heap.size ≠ wd.heap.size + 1 := (by have h := blk_lt hV; simp only [World.size_alloc] at h; omega)
      replace hV : Cl 50 ((wd.alloc (.cells (OC o) 50)).alloc (.cells #[] 50)) (wd.heap.size) (OC o) := hd_prev (blk_lt hV) hV
      refine hK.out _ _ (by exact Fr.of_below hb2) (fun hHeld => ?_)
      clear hK K
      (repeat (first | simp only [Act.put] | simp only [List.setIfInBounds_toArray] | simp only [List.set_cons_succ] | simp only [List.set_cons_zero]))
      refine wpAnyH_ready (rs := [5]) (by kernel_rfl) (by simp) ?_
      refine AllReadyH.cons (o := ⟨some 24, _, _, _, _, _⟩) rfl (fun K hK => ?_) AllReadyH.nil
      have zc := HCc.out _ hb2
      go_simp
      (try go_wp2_with fail)
      clear zc
      have hb3 := hb2
      refine hK.out _ _ (by exact Fr.of_below hb3) (fun hHeld => ?_)
      clear hK K
      (repeat (first | simp only [Act.put] | simp only [List.setIfInBounds_toArray] | simp only [List.set_cons_succ] | simp only [List.set_cons_zero]))
      refine wpAnyH_ready (rs := [6]) (by kernel_rfl) (by simp) ?_
      refine AllReadyH.cons (o := ⟨some 25, _, _, _, _, _⟩) rfl (fun K hK => ?_) AllReadyH.nil
      obtain ⟨v1, y1, hr1, hA, hg1, _⟩ := run_app ((wd.alloc (.cells (OC o) 50)).alloc (.cells #[] 50)) w1.heap.size 46 _ 0 (ol []) hE _ _ _ _ (HRw.out _ hb3) (by have := HN.out; omega) (Below.size hb3)
      rw [Nat.zero_add, show ol [] ++ ol M = ol M from rfl] at hA
      refine step_append rfl _ _ 46 rfl (.slice (some ⟨wd.heap.size + 1, 0, none⟩) 0 0) (.slice A M.length c) rfl rfl hr1 ?_
      have hb4 : Below w1.heap.size w1 y1 := below_own hb3 hE hg1
      replace hV : Cl 50 y1 (wd.heap.size) (OC o) := (hg1.block _ (blk_lt hV) (fun e => hve (Option.some.inj e))).trans hV
      refine hK.out _ _ (by exact Fr.of_below hb4) (fun hHeld => ?_)
      clear hK K
      (repeat (first | simp only [Act.put] | simp only [List.setIfInBounds_toArray] | simp only [List.set_cons_succ] | simp only [List.set_cons_zero]))
      refine wpAnyH_ready (rs := [9]) (by kernel_rfl) (by simp) ?_
      refine AllReadyH.cons (o := ⟨some 28, _, _, _, _, _⟩) rfl (fun K hK => ?_) AllReadyH.nil
      obtain ⟨v2, y2, hr2, hA2, hg2, _⟩ := run_app y1 w1.heap.size 46 v1 M.length (ol M) hA (some ⟨wd.heap.size, 0, none⟩) 1 1 [o] (own_one hV) (by have := HN.out; omega) (Below.size hb4)
      refine step_append rfl _ _ 46 rfl v1 (.slice (some ⟨wd.heap.size, 0, none⟩) 1 1) rfl rfl hr2 ?_
      have hbb : Below w1.heap.size w1 y2 := below_own hb4 hA hg2
      obtain ⟨A2, c2, rfl, _⟩ := own_que2 hA2
      rw [← ol_append] at hA2
      refine hK.out _ _ (by exact Fr.of_below hbb) (fun hHeld => ?_)
      clear hK K
      (repeat (first | simp only [Act.put] | simp only [List.setIfInBounds_toArray] | simp only [List.set_cons_succ] | simp only [List.set_cons_zero]))
      refine wpAnyH_ready (rs := [10]) (by kernel_rfl) (by simp) ?_
      refine AllReadyH.cons (o := ⟨some 29, _, _, _, _, _⟩) rfl (fun K hK => ?_) AllReadyH.nil
      go_simp
      refine (HS.out _ _ _ hA2).mono ?_
      rintro e y3 ⟨A3, c3, rfl, hb3⟩
      have hbc : Below w1.heap.size w1 y3 := hbb.trans (hb3.out.1.mono (Below.size hbb))
      refine hK.out _ _ (by exact Fr.of_below hbc) (fun hHeld => ?_)
      clear hK K
      (repeat (first | simp only [Act.put] | simp only [List.setIfInBounds_toArray] | simp only [List.set_cons_succ] | simp only [List.set_cons_zero]))
      refine wpAnyH_take (i := 11) (oi := ⟨some 30, _, _, _, _, _⟩) (v := ?_) rfl (by kernel_rfl) (by kernel_rfl) (by kernel_rfl) (fun _ _ _ h => h) (Or.inl ⟨by kernel_rfl, ?_⟩) (by assumption) ?_
      rotate_left
      · (intro w hSw; obtain ⟨hs0, hs1, hs2, hs3, hs4, hs5⟩ := six_of (HCo.out _ hSw); clear hSw; go_simp; try with_reducible rfl)
      (repeat (first | simp only [Act.put] | simp only [List.setIfInBounds_toArray] | simp only [List.set_cons_succ] | simp only [List.set_cons_zero]))
      refine wpAnyH_take (i := 12) (oi := ⟨some 31, _, _, _, _, _⟩) (v := ?_) rfl (by kernel_rfl) (by kernel_rfl) (by kernel_rfl) (fun _ _ _ h => h) (Or.inl ⟨by kernel_rfl, ?_⟩) (by assumption) ?_
      rotate_left
      · (intro w hSw; obtain ⟨hs0, hs1, hs2, hs3, hs4, hs5⟩ := six_of (HCo.out _ hSw); clear hSw; go_simp; try with_reducible rfl)
      (repeat (first | simp only [Act.put] | simp only [List.setIfInBounds_toArray] | simp only [List.set_cons_succ] | simp only [List.set_cons_zero]))
      refine wpAnyH_ready (rs := [13]) (by kernel_rfl) (by simp) ?_
      refine AllReadyH.cons (o := ⟨none, _, _, _, _, _⟩) rfl (fun K hK => ?_) AllReadyH.nil
      have zc := HCc.out _ hbc
      have zf := (HCb.out _ hbc).f (k := 0)
      go_simp
      (try go_wp2_with fail)
      refine hK.out _ _ (by exact (Fr.of_below hbc : Fr (fun k => k = wb) w1 y3).set (p := ⟨wb, 0, none⟩) (.inl rfl) _) (fun hHeld => ?_)
      clear hK K
      (repeat (first | simp only [Act.put] | simp only [List.setIfInBounds_toArray] | simp only [List.set_cons_succ] | simp only [List.set_cons_zero]))
      refine wpAnyH_done (by kernel_rfl) ?_ _
      have hF := Lib.hid (radd_end (HCb.out _ hbc) hb3.out.2 HB1.out hbc)
      clear hA2 hHeld zc zf hbb hb3
      go_wp2_with fail
      go_ret
      exact ⟨0, _, rfl, Lib.hid ⟨hF.out.1, hF.out.2, .inr (.inr ⟨hg, hid, .inr ⟨hl, rfl, rfl⟩⟩)⟩⟩
    · have zc := HCc.out _ hb1
      go_simp
      (try go_wp2_with fail)
      clear zc
      have hb2 := hb1
      refine hK.out _ _ (by exact Fr.of_below hb2) (fun hHeld => ?_)
      clear hK K
      (repeat (first | simp only [Act.put] | simp only [List.setIfInBounds_toArray] | simp only [List.set_cons_succ] | simp only [List.set_cons_zero]))
      refine wpAnyH_ready (rs := [1]) (by kernel_rfl) (by simp) ?_
      refine AllReadyH.cons (o := ⟨some 20, _, _, _, _, _⟩) rfl (fun K hK => ?_) AllReadyH.nil
      go_simp
      (try go_wp2_with fail)
      have hb3 : Below w1.heap.size w1 ((wd.alloc (.cells (OC o) 50)).alloc (.cells #[] 50)) := (hb2).alloc (Below.size hb2) _
      have hE : ((wd.alloc (.cells (OC o) 50)).alloc (.cells #[] 50)).ownsRow w1.heap.size 50 6 (.slice (some ⟨wd.heap.size + 1, 0, none⟩) 0 0) 0 (ol []) := ⟨rfl, .inr ⟨wd.heap.size + 1, 0, #[], rfl, (by have := Below.size hb0; omega), hd_last (by simp), Nat.le_refl _, Nat.zero_le _, rfl, rfl⟩⟩
      have hve : wd.heap.size ≠ wd.heap.size + 1 := (by have h := blk_lt hV; simp only [World.size_alloc] at h; omega)
      replace hV : Cl 50 ((wd.alloc (.cells (OC o) 50)).alloc (.cells #[] 50)) (wd.heap.size) (OC o) := hd_prev (blk_lt hV) hV
      refine hK.out _ _ (by exact Fr.of_below hb3) (fun hHeld => ?_)
      clear hK K
      (repeat (first | simp only [Act.put] | simp only [List.setIfInBounds_toArray] | simp only [List.set_cons_succ] | simp only [List.set_cons_zero]))
      refine wpAnyH_ready (rs := [6]) (by kernel_rfl) (by simp) ?_
      refine AllReadyH.cons (o := ⟨some 25, _, _, _, _, _⟩) rfl (fun K hK => ?_) AllReadyH.nil
      obtain ⟨v1, y1, hr1, hA, hg1, _⟩ := run_app ((wd.alloc (.cells (OC o) 50)).alloc (.cells #[] 50)) w1.heap.size 46 _ 0 (ol []) hE _ _ _ _ (HRw.out _ hb3) (by have := HN.out; omega) (Below.size hb3)
      rw [Nat.zero_add, show ol [] ++ ol M = ol M from rfl] at hA
      refine step_append rfl _ _ 46 rfl (.slice (some ⟨wd.heap.size + 1, 0, none⟩) 0 0) (.slice A M.length c) rfl rfl hr1 ?_
      have hb4 : Below w1.heap.size w1 y1 := below_own hb3 hE hg1
      replace hV : Cl 50 y1 (wd.heap.size) (OC o) := (hg1.block _ (blk_lt hV) (fun e => hve (Option.some.inj e))).trans hV
      refine hK.out _ _ (by exact Fr.of_below hb4) (fun hHeld => ?_)
      clear hK K
      (repeat (first | simp only [Act.put] | simp only [List.setIfInBounds_toArray] | simp only [List.set_cons_succ] | simp only [List.set_cons_zero]))
      refine wpAnyH_ready (rs := [9]) (by kernel_rfl) (by simp) ?_
      refine AllReadyH.cons (o := ⟨some 28, _, _, _, _, _⟩) rfl (fun K hK => ?_) AllReadyH.nil
      obtain ⟨v2, y2, hr2, hA2, hg2, _⟩ := run_app y1 w1.heap.size 46 v1 M.length (ol M) hA (some ⟨wd.heap.size, 0, none⟩) 1 1 [o] (own_one hV) (by have := HN.out; omega) (Below.size hb4)
      refine step_append rfl _ _ 46 rfl v1 (.slice (some ⟨wd.heap.size, 0, none⟩) 1 1) rfl rfl hr2 ?_
      have hbb : Below w1.heap.size w1 y2 := below_own hb4 hA hg2
      obtain ⟨A2, c2, rfl, _⟩ := own_que2 hA2
      rw [← ol_append] at hA2
      refine hK.out _ _ (by exact Fr.of_below hbb) (fun hHeld => ?_)
      clear hK K
      (repeat (first | simp only [Act.put] | simp only [List.setIfInBounds_toArray] | simp only [List.set_cons_succ] | simp only [List.set_cons_zero]))
      refine wpAnyH_ready (rs := [10]) (by kernel_rfl) (by simp) ?_
      refine AllReadyH.cons (o := ⟨some 29, _, _, _, _, _⟩) rfl (fun K hK => ?_) AllReadyH.nil
      go_simp
      refine (HS.out _ _ _ hA2).mono ?_
      rintro e y3 ⟨A3, c3, rfl, hb3⟩
      have hbc : Below w1.heap.size w1 y3 := hbb.trans (hb3.out.1.mono (Below.size hbb))
      refine hK.out _ _ (by exact Fr.of_below hbc) (fun hHeld => ?_)
      clear hK K
      (repeat (first | simp only [Act.put] | simp only [List.setIfInBounds_toArray] | simp only [List.set_cons_succ] | simp only [List.set_cons_zero]))
      refine wpAnyH_take (i := 11) (oi := ⟨some 30, _, _, _, _, _⟩) (v := ?_) rfl (by kernel_rfl) (by kernel_rfl) (by kernel_rfl) (fun _ _ _ h => h) (Or.inl ⟨by kernel_rfl, ?_⟩) (by assumption) ?_
      rotate_left
      · (intro w hSw; obtain ⟨hs0, hs1, hs2, hs3, hs4, hs5⟩ := six_of (HCo.out _ hSw); clear hSw; go_simp; try with_reducible rfl)
      (repeat (first | simp only [Act.put] | simp only [List.setIfInBounds_toArray] | simp only [List.set_cons_succ] | simp only [List.set_cons_zero]))
      refine wpAnyH_take (i := 12) (oi := ⟨some 31, _, _, _, _, _⟩) (v := ?_) rfl (by kernel_rfl) (by kernel_rfl) (by kernel_rfl) (fun _ _ _ h => h) (Or.inl ⟨by kernel_rfl, ?_⟩) (by assumption) ?_
      rotate_left
      · (intro w hSw; obtain ⟨hs0, hs1, hs2, hs3, hs4, hs5⟩ := six_of (HCo.out _ hSw); clear hSw; go_simp; try with_reducible rfl)
      (repeat (first | simp only [Act.put] | simp only [List.setIfInBounds_toArray] | simp only [List.set_cons_succ] | simp only [List.set_cons_zero]))
      refine wpAnyH_ready (rs := [13]) (by kernel_rfl) (by simp) ?_
      refine AllReadyH.cons (o := ⟨none, _, _, _, _, _⟩) rfl (fun K hK => ?_) AllReadyH.nil
      have zc := HCc.out _ hbc
      have zf := (HCb.out _ hbc).f (k := 0)
      go_simp
      (try go_wp2_with fail)
      refine hK.out _ _ (by exact (Fr.of_below hbc : Fr (fun k => k = wb) w1 y3).set (p := ⟨wb, 0, none⟩) (.inl rfl) _) (fun hHeld => ?_)
      clear hK K
      (repeat (first | simp only [Act.put] | simp only [List.setIfInBounds_toArray] | simp only [List.set_cons_succ] | simp only [List.set_cons_zero]))
      refine wpAnyH_done (by kernel_rfl) ?_ _
      have hF := Lib.hid (radd_end (HCb.out _ hbc) hb3.out.2 HB1.out hbc)
      clear hA2 hHeld zc zf hbb hb3
      go_wp2_with fail
      go_ret
      exact ⟨0, _, rfl, Lib.hid ⟨hF.out.1, hF.out.2, .inr (.inr ⟨hg, hid, .inr ⟨hl, rfl, rfl⟩⟩)⟩⟩
theorem rAdd_c (wb : Nat) (M : List Od) (o : Od) (w : World) (H : RB w wb M) (hn : M.length ≤ 1000) (hok : ∀ x ∈ M, Od.ok w x) (ho : Od.ok w o) :
    Calls Try.prog 19 #[.pointer (some ⟨wb, 0, none⟩), (.agg #[.int .u64 o.id, .int .i64 o.acc, .int .i64 o.side, .int .i64 o.price, .int .i64 o.qty, .int .u64 o.seq])] w fun e w' => ∃ c M', e = .returned (.int .i64 c) ∧ Hid (RAdd w w' wb M M' o c) := by
  cases hg : goodO o with
  | false => exact radd_bad wb M o w H hn hg
  | true =>
    by_cases hx : ∃ x ∈ M, x.id = o.id
    · obtain ⟨x, h1, h2⟩ := hx
      exact radd_there wb M o w H hn hg x h1 h2
    · have hid : ∀ x ∈ M, ¬ x.id = o.id := fun x h1 h2 => hx ⟨x, h1, h2⟩
      by_cases hl : 64 ≤ M.length
      · exact radd_full wb M o w H hn hg hid hl
      · exact radd_put wb M o w H hn hok ho hg hid (by omega)
end Go.Proofs.Ytgbmgdffgmablaa

/- ladder and the reference's book, side by side. -/
namespace Go.Proofs.Ytgbmgdffgmablaa
open Go.RowKit Go.Sort Go.Lib Go.Shelf

theorem rb_low {W W' : World} {wb : Nat} {M : List Od} (R : RB W wb M) (hb : Below W.heap.size W W') : RB W' wb M := by
  obtain ⟨A, c, hc, hr⟩ := R
  exact ⟨A, c, (hb.block _ (blk_lt hc)).trans hc, own_low hr hb⟩
/-- Two rows that stand as they trade, of the same orders, are one. -/
theorem uniq_mem : ∀ {A B : List Od}, A.Pairwise (fun x y => ltO x y = true) → B.Pairwise (fun x y => ltO x y = true) → (∀ x, x ∈ A ↔ x ∈ B) → A = B
  | [], [], _, _, _ => rfl
  | [], y :: B, _, _, h => by have := (h y).2 (by simp); cases this
  | x :: A, [], _, _, h => by have := (h x).1 (by simp); cases this
  | x :: A, y :: B, ha, hb, h => by
    rw [List.pairwise_cons] at ha hb
    have e : x = y := by
      rcases List.mem_cons.1 ((h x).1 (by simp)) with e | e
      · exact e
      · rcases List.mem_cons.1 ((h y).2 (by simp)) with e' | e'
        · exact e'.symm
        · have h1 := hb.1 x e
          have h2 := ha.1 y e'
          rw [lt_asym h1] at h2; cases h2
    subst e
    congr 1
    refine uniq_mem ha.2 hb.2 (fun z => ⟨fun hz => ?_, fun hz => ?_⟩)
    · rcases List.mem_cons.1 ((h z).1 (by simp [hz])) with rfl | e
      · have := ha.1 z hz; rw [lt_irr] at this; cases this
      · exact e
    · rcases List.mem_cons.1 ((h z).2 (by simp [hz])) with rfl | e
      · have := hb.1 z hz; rw [lt_irr] at this; cases this
      · exact e
end Go.Proofs.Ytgbmgdffgmablaa

/- LadderOrder, walked. -/
namespace Go.Proofs.Ytgbmgdffgmablaa
open Go.RowKit Go.Sort Go.Lib Go.Shelf

section
variable {w W W' : World} {pa ma pb mb wb : Nat} {a1 a2 b1 b2 : Sd} {M : List Od}
end
/-- An order of the list, with its place for an ID. -/
def oN (its : List Od) (i : Nat) : Od := ⟨(i : Int), (its[i]!).acc, (its[i]!).side, (its[i]!).price, (its[i]!).qty, (its[i]!).seq⟩
theorem oN_ok {w : World} {its : List Od} {i : Nat} (h : ∀ x ∈ its, Od.ok w x) (hi : i < its.length) (hn : its.length ≤ 64) : Od.ok w (oN its i) := by
  have := h (its[i]!) (by rw [getElem!_pos its i hi]; exact List.getElem_mem hi)
  unfold Od.ok at this ⊢
  refine ⟨⟨by show (0 : Int) ≤ (i : Int); omega, by show (i : Int) ≤ _; omega⟩, this.2⟩
/-- What is in a book to which some orders of the list were added. -/
def Has (its : List Od) (P : Nat → Prop) (n : Nat) (s1 s2 : Sd) : Prop :=
  (∀ x, x ∈ bookL s1.rs s2.rs ↔ ∃ j, P j ∧ x = oN its j ∧ goodO (oN its j) = true) ∧ (bookL s1.rs s2.rs).length ≤ n
/-- The places come all, in whatever turn. -/
theorem turn_all {n by' t : Nat} (ht : t < n) : ∃ i, i < n ∧ n - 1 - (i + by') % n = t := by
  refine ⟨(n - 1 - t + (n - by' % n)) % n, Nat.mod_lt _ (by omega), ?_⟩
  have h1 : by' % n < n := Nat.mod_lt _ (by omega)
  have h2 : ((n - 1 - t + (n - by' % n)) % n + by') % n = n - 1 - t := by
    rw [Nat.add_mod, Nat.mod_mod, ← Nat.add_mod, Nat.add_mod, ← Nat.add_mod]
    have : (n - 1 - t + (n - by' % n) + by') % n = (n - 1 - t + (n - by' % n) + by' % n) % n := by
      rw [Nat.add_mod, Nat.add_mod (n - 1 - t + (n - by' % n)) (by' % n), Nat.mod_mod]
    rw [this, show n - 1 - t + (n - by' % n) + by' % n = n - 1 - t + n by omega, Nat.add_mod_right, Nat.mod_eq_of_lt (by omega)]
  rw [h2]; omega
end Go.Proofs.Ytgbmgdffgmablaa

/- grove and the reference's book, side by side. -/
namespace Go.Proofs.Ytgbmgdffgmablaa
open Go.RowKit Go.Sort Go.Lib Go.Maps Go.Shelf
set_option linter.unusedVariables false

/-- The blocks of a book are of its own kinds. -/
theorem gft_kind {W : World} {p : Nat} {m : Nat × Nat} {s1 s2 : Gd} (H : gWhole W p m s1 s2) {k : Nat} (hk : gft p m s1 s2 k) {cs : Array Value} {T : TypeId} (h : Cl T W k cs) : T = 29 ∨ T = 3 ∨ T = 95 ∨ T = 91 ∨ T = 22 := by
  obtain ⟨D, H⟩ := H
  have e : ∀ {T' : TypeId} {cs' : Array Value}, Cl T' W k cs' → T = T' := fun a => by
    have a' := h.symm.trans a
    injection a' with a'; injection a' with _ a'
  have sd : ∀ {s : Int} {g : Sg}, SgIn W s g → sfoot g k → T = 29 ∨ T = 3 ∨ T = 95 ∨ T = 91 ∨ T = 22 := fun hs hf => by
    rcases hs.cls hf with ⟨_, c, a⟩ | ⟨_, c, a⟩ | ⟨_, c, a⟩ | ⟨_, c, a⟩
    · exact .inr (.inl (e a))
    · exact .inr (.inr (.inl (e a)))
    · exact .inr (.inr (.inr (.inl (e a))))
    · exact .inr (.inr (.inr (.inr (e a))))
  rcases hk with rfl | hk | hk | hk | hk
  · exact .inl (e H.bookp)
  · exact absurd hk (cl_ne_map h (H.gk.om _ _ rfl))
  · exact absurd hk (cl_ne_map h (H.gk.sm _ _ rfl))
  · exact sd (H.gk.s1 rfl) hk
  · exact sd (H.gk.s2 rfl) hk
theorem gWhole.fr {S : Nat → Prop} {w w' : World} {p : Nat} {m : Nat × Nat} {s1 s2 : Gd} (h : gWhole w p m s1 s2) (hf : Fr S w w') (hn : ∀ k, gft p m s1 s2 k → ¬ S k) : gWhole w' p m s1 s2 := by
  obtain ⟨D, h⟩ := h
  exact ⟨D, h.fr hf hn⟩
theorem gWhole.len {w : World} {p : Nat} {m : Nat × Nat} {s1 s2 : Gd} (h : gWhole w p m s1 s2) : (bookL s1.rs s2.rs).length ≤ 64 := by
  obtain ⟨D, h⟩ := h; exact h.len
theorem gWhole.ok {w : World} {p : Nat} {m : Nat × Nat} {s1 s2 : Gd} (h : gWhole w p m s1 s2) : ∀ x ∈ bookL s1.rs s2.rs, Od.ok w x ∧ goodO x = true := by
  obtain ⟨D, h⟩ := h; exact h.ok
theorem grb_fr {W W' : World} {wb : Nat} {M : List Od} {p : Nat} {m : Nat × Nat} {s1 s2 : Gd} (R : RB W wb M) (H : gWhole W p m s1 s2) (hf : Fr (gft p m s1 s2) W W') : RB W' wb M := by
  obtain ⟨A, c, hc, hr⟩ := R
  refine ⟨A, c, hf.blk hc (fun h => ?_), own_fr hr hf (fun k hk h => ?_)⟩
  · rcases gft_kind H h hc with e | e | e | e | e <;> exact absurd e (by decide)
  · obtain ⟨cs, hcs⟩ := own_blk hr hk
    rcases gft_kind H h hcs with e | e | e | e | e <;> exact absurd e (by decide)
theorem gft_ne {W : World} {wb : Nat} {M : List Od} {p : Nat} {m : Nat × Nat} {s1 s2 : Gd} (R : RB W wb M) (H : gWhole W p m s1 s2) : ∀ k, gft p m s1 s2 k → ¬ k = wb := by
  rintro k hk rfl
  obtain ⟨A, c, hc, _⟩ := R
  rcases gft_kind H hk hc with e | e | e | e | e <;> exact absurd e (by decide)
theorem gwhole_rb {W W' : World} {wb p : Nat} {m : Nat × Nat} {M : List Od} {s1 s2 : Gd} (R : RB W wb M) (H : gWhole W p m s1 s2) (hf : Fr (fun k => k = wb) W W') : gWhole W' p m s1 s2 := H.fr hf (gft_ne R H)
/-- What the book has is what Sorted makes of it. -/
theorem gput_sort {w w' : World} {p : Nat} {m : Nat × Nat} {s1 s2 s1' s2' : Gd} {o : Od} (h : gPutIs w w' p m s1 s2 s1' s2' o) : sortO (bookL s1.rs s2.rs ++ [o]) = bookL s1'.rs s2'.rs :=
  sortO_uniq (h.perm.trans (List.perm_append_comm (l₁ := [o]) (l₂ := bookL s1.rs s2.rs))) h.tu.wh.pw
/-- Both tell the same, and have the same. -/
theorem gadd_same {w w' v v' : World} {p wb : Nat} {m : Nat × Nat} {s1 s2 s1' s2' : Gd} {M M' : List Od} {o : Od} {c c' : Int} (h : gAddIs w w' p m s1 s2 s1' s2' o c) (k : RAdd v v' wb M M' o c') (hM : M = bookL s1.rs s2.rs) (hl : M.length ≤ 64) : c = c' ∧ M' = bookL s1'.rs s2'.rs := by
  subst hM
  obtain ⟨_, _, k⟩ := k
  rcases h with ⟨rfl, hg, rfl, rfl, _⟩ | ⟨hg, rfl, ⟨x, hx, hi⟩, rfl, rfl, _⟩ | ⟨hg, hid, ⟨rfl, hl', rfl, rfl, _⟩ | ⟨rfl, hl', hp⟩⟩
  · rcases k with ⟨_, rfl, rfl⟩ | ⟨hg', _⟩ | ⟨hg', _⟩
    · exact ⟨rfl, rfl⟩
    · rw [hg] at hg'; cases hg'
    · rw [hg] at hg'; cases hg'
  · rcases k with ⟨hg', _⟩ | ⟨_, rfl, _, rfl⟩ | ⟨_, hid', _⟩
    · rw [hg] at hg'; cases hg'
    · exact ⟨rfl, rfl⟩
    · exact absurd hi (hid' x hx)
  · rcases k with ⟨hg', _⟩ | ⟨_, _, ⟨x, hx, hi⟩, _⟩ | ⟨_, _, ⟨_, rfl, rfl⟩ | ⟨hlt, _⟩⟩
    · rw [hg] at hg'; cases hg'
    · exact absurd hi (hid x hx)
    · exact ⟨rfl, rfl⟩
    · omega
  · rcases k with ⟨hg', _⟩ | ⟨_, _, ⟨x, hx, hi⟩, _⟩ | ⟨_, _, ⟨hlt, _⟩ | ⟨_, rfl, rfl⟩⟩
    · rw [hg] at hg'; cases hg'
    · exact absurd hi (hid x hx)
    · omega
    · exact ⟨rfl, gput_sort hp⟩
/-- Behind Add: the book is whole; what has turned. -/
theorem gadd_whole {w w' : World} {p : Nat} {m : Nat × Nat} {s1 s2 s1' s2' : Gd} {o : Od} {c : Int} (H : gWhole w p m s1 s2) (h : gAddIs w w' p m s1 s2 s1' s2' o c) : gWhole w' p m s1' s2' ∧ Fr (gft p m s1 s2) w w' ∧ (∀ k, gft p m s1' s2' k → gft p m s1 s2 k ∨ w.heap.size ≤ k) := by
  rcases h with ⟨_, _, rfl, rfl, hb⟩ | ⟨_, _, _, rfl, rfl, hb⟩ | ⟨_, _, ⟨_, _, rfl, rfl, hb⟩ | ⟨_, _, hp⟩⟩
  · exact ⟨H.below hb, Fr.of_below hb, fun k hk => .inl hk⟩
  · exact ⟨H.below hb, Fr.of_below hb, fun k hk => .inl hk⟩
  · exact ⟨H.below hb, Fr.of_below hb, fun k hk => .inl hk⟩
  · exact ⟨hp.tu.wh, hp.tu.fr, hp.tu.ft⟩
/-- What is in the book behind Add, where only the order itself bears its ID, and there is room. -/
theorem gadd_mem {w w' : World} {p : Nat} {m : Nat × Nat} {s1 s2 s1' s2' : Gd} {o : Od} {c : Int} (h : gAddIs w w' p m s1 s2 s1' s2' o c) (hu : ∀ x ∈ bookL s1.rs s2.rs, x.id = o.id → x = o) (hl : (bookL s1.rs s2.rs).length < 64) :
    (∀ x, x ∈ bookL s1'.rs s2'.rs ↔ x ∈ bookL s1.rs s2.rs ∨ (x = o ∧ goodO o = true)) ∧ (bookL s1'.rs s2'.rs).length ≤ (bookL s1.rs s2.rs).length + 1 := by
  rcases h with ⟨_, hg, rfl, rfl, _⟩ | ⟨hg, _, ⟨y, hy, hi⟩, rfl, rfl, _⟩ | ⟨hg, hid, ⟨_, hl', rfl, rfl, _⟩ | ⟨_, hl', hp⟩⟩
  · refine ⟨fun x => ⟨.inl, fun h => ?_⟩, Nat.le_succ _⟩
    rcases h with h | ⟨_, h⟩
    · exact h
    · rw [hg] at h; cases h
  · refine ⟨fun x => ⟨.inl, fun h => ?_⟩, Nat.le_succ _⟩
    rcases h with h | ⟨rfl, _⟩
    · exact h
    · rw [← hu y hy hi]; exact hy
  · omega
  · refine ⟨fun x => ?_, by rw [hp.perm.length_eq, List.length_cons]; exact Nat.le_refl _⟩
    rw [hp.perm.mem_iff, List.mem_cons]
    exact ⟨fun h => h.elim (fun h => .inr ⟨h, hg⟩) .inl, fun h => h.elim .inr (fun h => .inl h.1)⟩
/-- Two books made anew and the reference's one: what the first step knows. -/
structure gNewIs (w w' : World) (p : Nat) (m : Nat × Nat) (s1 s2 : Gd) : Prop where
  wh : gWhole w' p m s1 s2
  nil : bookL s1.rs s2.rs = []
  be : Below w.heap.size w w'
  lo : ∀ k, gft p m s1 s2 k → w.heap.size ≤ k
theorem gNew_is (w : World) : Calls Try.prog 18 #[] w fun e w' => ∃ p m s1 s2, e = .returned (.pointer (some ⟨p, 0, none⟩)) ∧ Hid (gNewIs w w' p m s1 s2) :=
  (gNew_c w).mono fun e w' ⟨p, m, s1, s2, he, h⟩ => ⟨p, m, s1, s2, he, Lib.hid ⟨h.out.1, h.out.2.1, h.out.2.2.1, h.out.2.2.2⟩⟩
end Go.Proofs.Ytgbmgdffgmablaa

/- GroveOrder, walked. -/
namespace Go.Proofs.Ytgbmgdffgmablaa
open Go.RowKit Go.Sort Go.Lib Go.Maps Go.Shelf
set_option linter.unusedVariables false

/-- Two books and the reference's one, side by side. -/
structure gTri (w W : World) (pa : Nat) (ma : Nat × Nat) (a1 a2 : Gd) (pb : Nat) (mb : Nat × Nat) (b1 b2 : Gd) (wb : Nat) (M : List Od) : Prop where
  wa : gWhole W pa ma a1 a2
  wv : gWhole W pb mb b1 b2
  rb : RB W wb M
  be : Below w.heap.size w W
  loa : ∀ k, gft pa ma a1 a2 k → w.heap.size ≤ k
  lob : ∀ k, gft pb mb b1 b2 k → w.heap.size ≤ k
  low : w.heap.size ≤ wb
  dj : ∀ k, gft pa ma a1 a2 k → ¬ gft pb mb b1 b2 k
section
variable {w W W' : World} {pa pb wb : Nat} {ma mb : Nat × Nat} {a1 a2 b1 b2 : Gd} {M : List Od}
theorem gTri.below (h : gTri w W pa ma a1 a2 pb mb b1 b2 wb M) (hb : Below W.heap.size W W') : gTri w W' pa ma a1 a2 pb mb b1 b2 wb M :=
  ⟨h.wa.below hb, h.wv.below hb, rb_low h.rb hb, h.be.trans (hb.mono h.be.size), h.loa, h.lob, h.low, h.dj⟩
theorem gTri.addA {a1' a2' : Gd} {o : Od} {c : Int} (h : gTri w W pa ma a1 a2 pb mb b1 b2 wb M) (k : gAddIs W W' pa ma a1 a2 a1' a2' o c) : gTri w W' pa ma a1' a2' pb mb b1 b2 wb M := by
  obtain ⟨k1, k2, k3⟩ := gadd_whole h.wa k
  refine ⟨k1, h.wv.fr k2 (fun j hj hj' => h.dj j hj' hj), grb_fr h.rb h.wa k2, h.be.trans (k2.below h.loa h.be.size), fun j hj => ?_, h.lob, h.low, fun j hj hj' => ?_⟩
  · rcases k3 j hj with e | e
    · exact h.loa j e
    · exact Nat.le_trans h.be.size e
  · rcases k3 j hj with e | e
    · exact h.dj j e hj'
    · have := gft.lt h.wv _ hj'; omega
theorem gTri.addB {b1' b2' : Gd} {o : Od} {c : Int} (h : gTri w W pa ma a1 a2 pb mb b1 b2 wb M) (k : gAddIs W W' pb mb b1 b2 b1' b2' o c) : gTri w W' pa ma a1 a2 pb mb b1' b2' wb M := by
  obtain ⟨k1, k2, k3⟩ := gadd_whole h.wv k
  refine ⟨h.wa.fr k2 (fun j hj hj' => h.dj j hj hj'), k1, grb_fr h.rb h.wv k2, h.be.trans (k2.below h.lob h.be.size), h.loa, fun j hj => ?_, h.low, fun j hj hj' => ?_⟩
  · rcases k3 j hj with e | e
    · exact h.lob j e
    · exact Nat.le_trans h.be.size e
  · rcases k3 j hj' with e | e
    · exact h.dj j hj e
    · have := gft.lt h.wa _ hj; omega
theorem gTri.ref {M' : List Od} {o : Od} {c : Int} (h : gTri w W pa ma a1 a2 pb mb b1 b2 wb M) (k : RAdd W W' wb M M' o c) : gTri w W' pa ma a1 a2 pb mb b1 b2 wb M' :=
  ⟨gwhole_rb h.rb h.wa k.2.1, gwhole_rb h.rb h.wv k.2.1, k.1, h.be.trans (k.2.1.below (fun j hj => by subst hj; exact h.low) h.be.size), h.loa, h.lob, h.low, h.dj⟩
end
/-- What is in a book to which some orders of the list were added. -/
def gHas (its : List Od) (P : Nat → Prop) (n : Nat) (s1 s2 : Gd) : Prop :=
  (∀ x, x ∈ bookL s1.rs s2.rs ↔ ∃ j, P j ∧ x = oN its j ∧ goodO (oN its j) = true) ∧ (bookL s1.rs s2.rs).length ≤ n
theorem ghas_add {w w' : World} {p n t : Nat} {m : Nat × Nat} {s1 s2 s1' s2' : Gd} {its : List Od} {c : Int} {P : Nat → Prop} (h : gHas its P n s1 s2) (k : gAddIs w w' p m s1 s2 s1' s2' (oN its t) c) (hn : n < 64) : gHas its (fun j => P j ∨ j = t) (n + 1) s1' s2' := by
  obtain ⟨h1, h2⟩ := h
  obtain ⟨k1, k2⟩ := gadd_mem k (fun x hx he => by
    obtain ⟨j, _, rfl, _⟩ := (h1 x).1 hx
    have : (j : Int) = (t : Int) := he
    have : j = t := by omega
    rw [this]) (by omega)
  refine ⟨fun x => ?_, by omega⟩
  rw [k1, h1]
  constructor
  · rintro (⟨j, hj, hx, hg⟩ | ⟨hx, hg⟩)
    · exact ⟨j, .inl hj, hx, hg⟩
    · exact ⟨t, .inr rfl, hx, hg⟩
  · rintro ⟨j, hj | hj, hx, hg⟩
    · exact .inl ⟨j, hj, hx, hg⟩
    · subst hj; exact .inr ⟨hx, hg⟩
theorem ghas_same {w w' : World} {pa pb n by' : Nat} {ma mb : Nat × Nat} {a1 a2 b1 b2 : Gd} {its : List Od} (ha : gWhole w pa ma a1 a2) (hb : gWhole w' pb mb b1 b2) (h : gHas its (fun j => j < n) n a1 a2) (k : gHas its (fun t => ∃ i, i < n ∧ n - 1 - (i + by') % n = t) n b1 b2) : bookL b1.rs b2.rs = bookL a1.rs a2.rs := by
  refine uniq_mem hb.pw ha.pw (fun x => ?_)
  rw [h.1, k.1]
  constructor
  · rintro ⟨t, ⟨i, hi, rfl⟩, hx, hg⟩
    exact ⟨_, by have : 0 < n := by omega
                 omega, hx, hg⟩
  · rintro ⟨t, ht, hx, hg⟩
    exact ⟨t, turn_all ht, hx, hg⟩
end Go.Proofs.Ytgbmgdffgmablaa

/- GroveOrder, walked. -/
namespace Go.Proofs.Ytgbmgdffgmablaa
open Go.RowKit Go.Sort Go.Lib Go.Maps Go.Shelf
set_option linter.unusedVariables false

/-- At the start: two books made anew and the reference's. -/
theorem gtri0 {w w1 w2 : World} {pa pb : Nat} {ma mb : Nat × Nat} {a1 a2 b1 b2 : Gd} (h1 : gNewIs w w1 pa ma a1 a2) (h2 : gNewIs w1 w2 pb mb b1 b2) :
    gTri w (w2.alloc (.cells #[.slice none 0 0] 48)) pa ma a1 a2 pb mb b1 b2 w2.heap.size [] := by
  have b2 : Below w2.heap.size w2 (w2.alloc (.cells #[.slice none 0 0] 48)) := (Below.refl _ _).alloc (Nat.le_refl _) _
  have z1 := h1.be.size
  have z2 := h2.be.size
  refine ⟨((h1.wh.below h2.be).below b2), h2.wh.below b2, ⟨none, 0, hd_last rfl, World.ownsRow_nil _ _ _ _⟩, h1.be.trans ((h2.be.trans (b2.mono z2)).mono z1), h1.lo, fun k hk => Nat.le_trans z1 (h2.lo k hk), by omega, fun k hk hk' => ?_⟩
  have := gft.lt h1.wh k hk
  have := h2.lo k hk'
  omega
theorem ghas_nil (its : List Od) {s1 s2 : Gd} (h : bookL s1.rs s2.rs = []) : gHas its (fun j => j < 0) 0 s1 s2 := by
  unfold gHas
  rw [h]
  exact ⟨fun x => ⟨fun h => (by cases h), fun ⟨j, hj, _⟩ => absurd hj (Nat.not_lt_zero _)⟩, Nat.le_refl _⟩
theorem ghas_ext {its : List Od} {P Q : Nat → Prop} {n : Nat} {s1 s2 : Gd} (h : gHas its P n s1 s2) (e : ∀ j, P j ↔ Q j) : gHas its Q n s1 s2 := by
  rwa [show P = Q from funext fun j => propext (e j)] at h
/-- The box of an order outlives what a book's Add turns. -/
theorem gbox_add {w w' : World} {p c : Nat} {m : Nat × Nat} {s1 s2 s1' s2' : Gd} {o : Od} {r : Int} {cs : Array Value} (H : gWhole w p m s1 s2) (k : gAddIs w w' p m s1 s2 s1' s2' o r) (hlo : ∀ j, gft p m s1 s2 j → j ≠ c) (h : Cl 24 w c cs) : Cl 24 w' c cs :=
  (gadd_whole H k).2.1.blk h (fun e => hlo c e rfl)
/-- One order, added to the first book and to the reference's. -/
theorem gstep_a {w wr w3 w4 : World} {pa pb wb k : Nat} {ma mb : Nat × Nat} {s1 s2 t1 t2 b1 b2 : Gd} {its M : List Od} {c c' : Int} {o : Obj} (h : gTri w wr pa ma s1 s2 pb mb b1 b2 wb (bookL s1.rs s2.rs)) (hs : gHas its (fun j => j < k) k s1 s2) (hk : k < 64)
    (ha : gAddIs (wr.alloc o) w3 pa ma s1 s2 t1 t2 (oN its k) c) (hr : RAdd w3 w4 wb (bookL s1.rs s2.rs) M (oN its k) c') : gTri w w4 pa ma t1 t2 pb mb b1 b2 wb (bookL t1.rs t2.rs) ∧ gHas its (fun j => j < k + 1) (k + 1) t1 t2 := by
  have h0 := h.below ((Below.refl _ _).alloc (Nat.le_refl _) o)
  obtain ⟨_, e⟩ := gadd_same ha hr rfl h.wa.len
  subst e
  exact ⟨(h0.addA ha).ref hr, ghas_ext (ghas_add hs ha hk) (fun j => by omega)⟩
theorem gstep_rb {w wr w3 : World} {pa pb wb k : Nat} {ma mb : Nat × Nat} {s1 s2 t1 t2 b1 b2 : Gd} {its : List Od} {c : Int} {o : Obj} (h : gTri w wr pa ma s1 s2 pb mb b1 b2 wb (bookL s1.rs s2.rs))
    (ha : gAddIs (wr.alloc o) w3 pa ma s1 s2 t1 t2 (oN its k) c) : RB w3 wb (bookL s1.rs s2.rs) := ((h.below ((Below.refl _ _).alloc (Nat.le_refl _) o)).addA ha).rb
theorem gstep_box {w wr w3 : World} {pa pb wb k : Nat} {ma mb : Nat × Nat} {s1 s2 t1 t2 b1 b2 : Gd} {its M : List Od} {c : Int} {cs : Array Value} (h : gTri w wr pa ma s1 s2 pb mb b1 b2 wb M)
    (ha : gAddIs (wr.alloc (.cells cs 24)) w3 pa ma s1 s2 t1 t2 (oN its k) c) : Cl 24 w3 wr.heap.size cs :=
  gbox_add (h.below ((Below.refl _ _).alloc (Nat.le_refl _) _)).wa ha (fun j hj => by have := gft.lt h.wa _ hj; omega) (hd_last rfl)
/-- One order, added to the second book. -/
theorem gstep_b {w wr w3 : World} {pa pb wb k i by' t : Nat} {ma mb : Nat × Nat} {s1 s2 b1 b2 t1 t2 : Gd} {its M : List Od} {c : Int} {o : Obj} (h : gTri w wr pa ma s1 s2 pb mb b1 b2 wb M) (hs : gHas its (fun t => ∃ j, j < i ∧ k - 1 - (j + by') % k = t) i b1 b2) (hi : i < 64) (ht : k - 1 - (i + by') % k = t)
    (ha : gAddIs (wr.alloc o) w3 pb mb b1 b2 t1 t2 (oN its t) c) : gTri w w3 pa ma s1 s2 pb mb t1 t2 wb M ∧ gHas its (fun t => ∃ j, j < i + 1 ∧ k - 1 - (j + by') % k = t) (i + 1) t1 t2 := by
  have h0 := h.below ((Below.refl _ _).alloc (Nat.le_refl _) o)
  refine ⟨h0.addB ha, ghas_ext (ghas_add hs ha hi) (fun j => ⟨?_, ?_⟩)⟩
  · rintro (⟨a, ha, e⟩ | rfl)
    · exact ⟨a, by omega, e⟩
    · exact ⟨i, by omega, ht⟩
  · rintro ⟨a, ha, e⟩
    by_cases hai : a = i
    · subst hai; exact .inr (e.symm.trans ht)
    · exact .inl ⟨a, by omega, e⟩
/-- All of a whole book, as a row of orders. -/
theorem gall_in {W : World} {p n : Nat} {m : Nat × Nat} {s1 s2 : Gd} {L : List Od} (H : gWhole W p m s1 s2) (hL : bookL s1.rs s2.rs = L) (hn : L.length = n) :
    Calls Try.prog 12 #[.pointer (some ⟨p, 0, none⟩)] W fun e w' => ∃ A c, e = .returned (.slice A n c) ∧ Hid (Below W.heap.size W w') ∧ Hid (Ods w' A n L) := by
  subst hL
  have hl := H.len
  refine (hAll p m s1 s2 W H).mono ?_
  rintro e w' ⟨v, rfl, h⟩
  rw [hn] at h
  obtain ⟨A, c, rfl, _, ho⟩ := own_ods h.out.1 (by omega) (fun x hx => (H.ok x hx).1)
  exact ⟨A, c, rfl, Lib.hid h.out.2, Lib.hid ho⟩
theorem gsame_in {W : World} {n : Nat} {A B : Option Addr} {c c' : Nat} {L : List Od} (h : Ods W A n L) (k : Ods W B n L) (hn : n ≤ 1000) :
    Calls Try.prog 20 #[.slice A n c, .slice B n c'] W fun e w' => e = .returned (.bool true) ∧ Hid (Below W.heap.size W w') := by
  refine (same_c A B n c c' L L W h k hn).mono ?_
  rintro e w' ⟨rfl, g⟩
  exact ⟨by rw [(eqL_iff L L).2 rfl], Lib.hid g.b⟩

set_option maxHeartbeats 8000000 in
set_option maxRecDepth 100000 in
theorem gorder_w (a0 : Option Addr) (len0 cap0 : Nat) (its : List Od) (by' : Nat) (w : World) (hO : Ods w a0 len0 its) (hby : by' ≤ 255) :
    Calls Try.prog 4 #[.slice a0 len0 cap0, .int .u8 (by' : Int)] w fun e w' => e = .returned (.bool true) ∧ Below w.heap.size w w' := by
  have mixed : Try.prog.follows .mixedOrders = true := by kernel_rfl
  have HL := Lib.hid lives14_c
  by_cases h64 : len0 ≤ 64
  case neg =>
    have hz : (64 : Int) < (len0 : Int) := by omega
    clear hO h64
    go_enter Try.func4, Try.ntmps4
    go_wp2_with ((with_reducible refine (HL.out _).mono ?_); rintro e w2 ⟨rfl, k2⟩; have G2 : Hid (Below w.heap.size w w2) := Lib.hid k2; clear k2)
    go_ret
    exact ⟨rfl, G2.out⟩
  have hz : ¬ (64 : Int) < (len0 : Int) := by omega
  have HN0 : Hid (its.length = len0) := hO.1
  have HO := Lib.hid hO
  have H64 := Lib.hid h64
  have HB := Lib.hid hby
  have HN := Lib.hid gNew_is
  clear hO h64 hby
  go_enter Try.func4, Try.ntmps4
  go_wp2_with (first | ((with_reducible refine (HN.out w).mono ?_); rintro e w1 ⟨pa, ma, a1, a2, rfl, hn1⟩) | ((with_reducible refine (HN.out _).mono ?_); rintro e w2 ⟨pb, mb, b1, b2, rfl, hn2⟩))
  have NA := Lib.hid hn1.out.nil
  have NB := Lib.hid hn2.out.nil
  obtain ⟨W0, eW0⟩ : ∃ W0, w2.alloc (.cells #[.slice none 0 0] 48) = W0 := ⟨_, rfl⟩
  obtain ⟨wb, ewb⟩ : ∃ x, w2.heap.size = x := ⟨_, rfl⟩
  have T0 : Hid (gTri w W0 pa ma a1 a2 pb mb b1 b2 wb []) := by
    have h := gtri0 hn1.out hn2.out
    rw [eW0, ewb] at h
    exact Lib.hid h
  rw [eW0, ewb]
  clear eW0 ewb hn1 hn2 HN
  clear w1 w2
  go_loopw [27] (fun s wr => ∃ (k : Nat) (s1 s2 : Gd), s = .int .i64 (k : Int) ∧ Hid (k ≤ len0 ∧ gTri w wr pa ma s1 s2 pb mb b1 b2 wb (bookL s1.rs s2.rs) ∧ gHas its (fun j => j < k) k s1 s2)) (fun s _ => match s with | .int _ z => len0 - z.toNat | _ => 0)
  case atStart => exact ⟨0, a1, a2, rfl, Nat.zero_le _, by rw [NA.out]; exact T0.out, ghas_nil its NA.out⟩
  case round =>
    clear T0
    obtain ⟨k, s1, s2, rfl, hd⟩ := hrel
    by_cases hk : k < len0
    · have hkI : (k : Int) < (len0 : Int) := by omega
      have h1 := (HO.out.below hd.out.2.1.be).2.2.2
      rcases h1 with h1 | ⟨b, off, rfl, _, hc⟩
      · omega
      have hx := hc k hk
      clear hc
      have HA : Hid (∀ W, gWhole W pa ma s1 s2 → Calls Try.prog 10 #[.pointer (some ⟨pa, 0, none⟩), .agg #[.int .u64 (k : Int), .int .i64 (its[k]!).acc, .int .i64 (its[k]!).side, .int .i64 (its[k]!).price, .int .i64 (its[k]!).qty, .int .u64 (its[k]!).seq]] W fun e w' => ∃ c s1' s2', e = .returned (.int .i64 c) ∧ Hid (gAddIs W w' pa ma s1 s2 s1' s2' (oN its k) c)) := fun W h => gAdd_c pa ma s1 s2 (oN its k) W h (oN_ok (w := W) HO.out.2.2.1 (by rw [HN0.out]; exact hk) (by rw [HN0.out]; exact H64.out))
      have HR : Hid (∀ W, RB W wb (bookL s1.rs s2.rs) → Calls Try.prog 19 #[.pointer (some ⟨wb, 0, none⟩), .agg #[.int .u64 (k : Int), .int .i64 (its[k]!).acc, .int .i64 (its[k]!).side, .int .i64 (its[k]!).price, .int .i64 (its[k]!).qty, .int .u64 (its[k]!).seq]] W fun e w' => ∃ c M', e = .returned (.int .i64 c) ∧ Hid (RAdd W w' wb (bookL s1.rs s2.rs) M' (oN its k) c)) := fun W h => rAdd_c wb (bookL s1.rs s2.rs) (oN its k) W h (by have := hd.out.2.1.wa.len; omega) (fun x hx => (hd.out.2.1.wa.ok x hx).1) (oN_ok (w := W) HO.out.2.2.1 (by rw [HN0.out]; exact hk) (by rw [HN0.out]; exact H64.out))
      obtain ⟨x, ex⟩ : ∃ x, its[k]! = x := ⟨_, rfl⟩
      rw [ex] at hx HA HR
      obtain ⟨x0, x1, x2, x3, x4, x5⟩ := hx
      have Hk := Lib.hid hk
      clear hk
      have HW := Lib.hid (hd.out.2.1.below ((Below.refl _ _).alloc (Nat.le_refl _) (.cells (OC ⟨(k : Int), x.acc, x.side, x.price, x.qty, x.seq⟩) 24))).wa
      go_wp2_with (first | ((with_reducible refine (HA.out _ HW.out).mono ?_); rintro e w3 ⟨cc, t1, t2, rfl, ha⟩; have HX := Lib.hid (gstep_rb hd.out.2.1 ha.out); obtain ⟨y0, y1, y2, y3, y4, y5⟩ := six_of (o := ⟨(k : Int), x.acc, x.side, x.price, x.qty, x.seq⟩) (gstep_box hd.out.2.1 ha.out); clear HA HW x0 x1 x2 x3 x4 x5) | ((with_reducible refine (HR.out _ HX.out).mono ?_); rintro e w4 ⟨cc', M', rfl, hr⟩))
      have Hs := gstep_a hd.out.2.1 hd.out.2.2 (Nat.lt_of_lt_of_le Hk.out H64.out) ha.out hr.out
      exact ⟨⟨k + 1, t1, t2, rfl, Hk.out, Hs.1, Hs.2⟩, less_left Hk.out⟩
    · obtain rfl : k = len0 := by have := hd.out.1; omega
      have hkI : ¬ (k : Int) < (k : Int) := by omega
      have HA1 := hd.out.2.2
      have HT := hd.out.2.1
      clear hd hk
      go_wp2_with fail
      go_loopw [43] (fun s wr => ∃ (i : Nat) (t1 t2 : Gd), s = .int .i64 (i : Int) ∧ Hid (i ≤ k ∧ gTri w wr pa ma s1 s2 pb mb t1 t2 wb (bookL s1.rs s2.rs) ∧ gHas its (fun t => ∃ j, j < i ∧ k - 1 - (j + by') % k = t) i t1 t2)) (fun s _ => match s with | .int _ z => k - z.toNat | _ => 0)
      case atStart => exact ⟨0, b1, b2, rfl, Nat.zero_le _, HT, ghas_ext (ghas_nil its NB.out) (fun j => ⟨fun h => absurd h (Nat.not_lt_zero _), fun ⟨_, h, _⟩ => absurd h (Nat.not_lt_zero _)⟩)⟩
      case round =>
        clear HT
        obtain ⟨i, t1, t2, rfl, hd⟩ := hrel
        by_cases hk : i < k
        · have hkI : (i : Int) < (k : Int) := by omega
          have h1 := (HO.out.below hd.out.2.1.be).2.2.2
          rcases h1 with h1 | ⟨b, off, rfl, _, hc⟩
          · omega
          have hby := HB.out
          have h64 := H64.out
          obtain ⟨q, hq⟩ : ∃ q, (i + by') % k = q := ⟨_, rfl⟩
          have e1 : ((i : Int) + (by' : Int)) % (k : Int) = (q : Int) := by rw [← hq, Int.natCast_emod, Int.natCast_add]
          have hqk : q < k := by rw [← hq]; exact Nat.mod_lt _ (by omega)
          obtain ⟨t, ht⟩ : ∃ t, k - 1 - q = t := ⟨_, rfl⟩
          have htk : t < k := by omega
          have e2 : wrap64 ((k : Int) - 1 - (q : Int)) = (t : Int) := by simp only [wrap64]; omega
          have htI : (t : Int) < (k : Int) := by omega
          have hx := hc t htk
          have Hk := Lib.hid hk
          have HQ : Hid (k - 1 - (i + by') % k = t) := by rw [hq]; exact ht
          clear hc hk hqk ht htk
          have HA : Hid (∀ W, gWhole W pb mb t1 t2 → Calls Try.prog 10 #[.pointer (some ⟨pb, 0, none⟩), .agg #[.int .u64 (t : Int), .int .i64 (its[t]!).acc, .int .i64 (its[t]!).side, .int .i64 (its[t]!).price, .int .i64 (its[t]!).qty, .int .u64 (its[t]!).seq]] W fun e w' => ∃ c s1' s2', e = .returned (.int .i64 c) ∧ Hid (gAddIs W w' pb mb t1 t2 s1' s2' (oN its t) c)) := fun W h => gAdd_c pb mb t1 t2 (oN its t) W h (oN_ok (w := W) HO.out.2.2.1 (by rw [HN0.out]; omega) (by rw [HN0.out]; exact H64.out))
          obtain ⟨x, ex⟩ : ∃ x, its[t]! = x := ⟨_, rfl⟩
          rw [ex] at hx HA
          obtain ⟨x0, x1, x2, x3, x4, x5⟩ := hx
          have HW := Lib.hid (hd.out.2.1.below ((Below.refl _ _).alloc (Nat.le_refl _) (.cells (OC ⟨(t : Int), x.acc, x.side, x.price, x.qty, x.seq⟩) 24))).wv
          go_wp2_with ((with_reducible refine (HA.out _ HW.out).mono ?_); rintro e w3 ⟨cc, u1, u2, rfl, ha⟩)
          have Hs := gstep_b hd.out.2.1 hd.out.2.2 (Nat.lt_of_lt_of_le Hk.out H64.out) HQ.out ha.out
          exact ⟨⟨i + 1, u1, u2, rfl, Hk.out, Hs.1, Hs.2⟩, less_left Hk.out⟩
        · obtain rfl : i = k := by have := hd.out.1; omega
          have hkI : ¬ (i : Int) < (i : Int) := by omega
          have HBe := Lib.hid hd.out.2.1.be
          obtain ⟨L, hL⟩ : ∃ L, bookL s1.rs s2.rs = L := ⟨_, rfl⟩
          obtain ⟨n, hn⟩ : ∃ n, L.length = n := ⟨_, rfl⟩
          have hLb : bookL t1.rs t2.rs = L := (ghas_same hd.out.2.1.wa hd.out.2.1.wv HA1 hd.out.2.2).trans hL
          have hn64 : n ≤ 64 := by have := hd.out.2.1.wa.len; rw [hL, hn] at this; exact this
          have HAllA : Hid (∀ W, Below wr.heap.size wr W → Calls Try.prog 12 #[.pointer (some ⟨pa, 0, none⟩)] W fun e w' => ∃ A c, e = .returned (.slice A n c) ∧ Hid (Below W.heap.size W w') ∧ Hid (Ods w' A n L)) := fun W hW => gall_in (hd.out.2.1.wa.below hW) hL hn
          have HAllB : Hid (∀ W, Below wr.heap.size wr W → Calls Try.prog 12 #[.pointer (some ⟨pb, 0, none⟩)] W fun e w' => ∃ A c, e = .returned (.slice A n c) ∧ Hid (Below W.heap.size W w') ∧ Hid (Ods w' A n L)) := fun W hW => gall_in (hd.out.2.1.wv.below hW) hLb hn
          have HSame : Hid (∀ W A B c c', Ods W A n L → Ods W B n L → Calls Try.prog 20 #[.slice A n c, .slice B n c'] W fun e w' => e = .returned (.bool true) ∧ Hid (Below W.heap.size W w')) := fun W A B c c' h k => gsame_in h k (by omega)
          obtain ⟨AM, cM, hcl, how⟩ := hd.out.2.1.rb
          rw [hL, hn] at how
          obtain ⟨_, _, e, _, hor⟩ := own_ods how (by omega) (fun x hx => by rw [← hL] at hx; exact (hd.out.2.1.wa.ok x hx).1)
          injection e with e _ e'
          subst e e'
          rw [hL, hn] at hcl
          have HRow : Hid (∀ W, Below wr.heap.size wr W → Ods W AM n L) := fun W hW => hor.below hW
          have HCell : Hid (∀ W, Below wr.heap.size wr W → W.cell? ⟨wb, 0, none⟩ = some (.slice AM n cM)) := fun W hW => (Cl.c (T := 48) ((hW.block _ (blk_lt hcl)).trans hcl) 0).trans rfl
          clear hd hk how hcl hor
          go_wp2_with fail
          --R0
          refine wp_region_held_drew (S := fun W => Below wr.heap.size wr W) (by kernel_rfl) (by exact (Below.refl _ _).drew) (fun hHeld => ?_)
          refine wpAnyH_take (i := 0) (oi := ⟨some 72, _, _, _, _, _⟩) (v := ?_) rfl (by kernel_rfl) (by kernel_rfl) (by kernel_rfl) (fun _ _ _ h => h) (Or.inl ⟨by kernel_rfl, ?_⟩) (by assumption) ?_
          rotate_left
          · (intro w hSw; (try dsimp only at hSw); go_simp; try with_reducible rfl)
          (repeat (first | simp only [Act.put] | simp only [List.setIfInBounds_toArray] | simp only [List.set_cons_succ] | simp only [List.set_cons_zero]))
          refine wpAnyH_take (i := 2) (oi := ⟨some 74, _, _, _, _, _⟩) (v := ?_) rfl (by kernel_rfl) (by kernel_rfl) (by kernel_rfl) (fun _ _ _ h => h) (Or.inl ⟨by kernel_rfl, ?_⟩) (by assumption) ?_
          rotate_left
          · (intro w hSw; (try dsimp only at hSw); go_simp; try with_reducible rfl)
          (repeat (first | simp only [Act.put] | simp only [List.setIfInBounds_toArray] | simp only [List.set_cons_succ] | simp only [List.set_cons_zero]))
          refine wpAnyH_take (i := 3) (oi := ⟨some 75, _, _, _, _, _⟩) (v := ?_) rfl (by kernel_rfl) (by kernel_rfl) (by kernel_rfl) (fun _ _ _ h => h) (Or.inl ⟨by kernel_rfl, ?_⟩) (by assumption) ?_
          rotate_left
          · (intro w hSw; have hs := HCell.out _ hSw; (try dsimp only at hSw); go_simp; try with_reducible rfl)
          (repeat (first | simp only [Act.put] | simp only [List.setIfInBounds_toArray] | simp only [List.set_cons_succ] | simp only [List.set_cons_zero]))
          refine wpAnyH_ready (rs := [1]) (by kernel_rfl) (by simp) ?_
          refine AllReadyH.cons (o := ⟨some 73, _, _, _, _, _⟩) rfl (fun K hK => ?_) AllReadyH.nil
          go_simp
          ((with_reducible refine (HAllA.out _ hHeld).mono ?_); rintro e y1 ⟨A1, c1, rfl, hb, ho1⟩)
          refine hK.out _ _ (by exact hHeld.trans (hb.out.mono hHeld.size)) (fun hHeld => ?_)
          clear hK K
          (repeat (first | simp only [Act.put] | simp only [List.setIfInBounds_toArray] | simp only [List.set_cons_succ] | simp only [List.set_cons_zero]))
          refine wpAnyH_ready (rs := [4]) (by kernel_rfl) (by simp) ?_
          refine AllReadyH.cons (o := ⟨some 76, _, _, _, _, _⟩) rfl (fun K hK => ?_) AllReadyH.nil
          go_simp
          ((with_reducible refine (HSame.out _ _ _ _ _ (ho1.out.below (Below.refl _ _)) (HRow.out _ hHeld)).mono ?_); rintro e y2 ⟨rfl, hb⟩)
          refine hK.out _ _ (by exact hHeld.trans (hb.out.mono hHeld.size)) (fun hHeld => ?_)
          clear hK K
          (repeat (first | simp only [Act.put] | simp only [List.setIfInBounds_toArray] | simp only [List.set_cons_succ] | simp only [List.set_cons_zero]))
          refine wpAnyH_take (i := 5) (oi := ⟨some 77, _, _, _, _, _⟩) (v := ?_) rfl (by kernel_rfl) (by kernel_rfl) (by kernel_rfl) (fun _ _ _ h => h) (Or.inl ⟨by kernel_rfl, ?_⟩) (by assumption) ?_
          rotate_left
          · (intro w hSw; (try dsimp only at hSw); go_simp; try with_reducible rfl)
          (repeat (first | simp only [Act.put] | simp only [List.setIfInBounds_toArray] | simp only [List.set_cons_succ] | simp only [List.set_cons_zero]))
          refine wpAnyH_take (i := 6) (oi := ⟨some 78, _, _, _, _, _⟩) (v := ?_) rfl (by kernel_rfl) (by kernel_rfl) (by kernel_rfl) (fun _ _ _ h => h) (Or.inl ⟨by kernel_rfl, ?_⟩) (by assumption) ?_
          rotate_left
          · (intro w hSw; (try dsimp only at hSw); go_simp; try with_reducible rfl)
          (repeat (first | simp only [Act.put] | simp only [List.setIfInBounds_toArray] | simp only [List.set_cons_succ] | simp only [List.set_cons_zero]))
          refine wpAnyH_take (i := 8) (oi := ⟨some 80, _, _, _, _, _⟩) (v := ?_) rfl (by kernel_rfl) (by kernel_rfl) (by kernel_rfl) (fun _ _ _ h => h) (Or.inl ⟨by kernel_rfl, ?_⟩) (by assumption) ?_
          rotate_left
          · (intro w hSw; (try dsimp only at hSw); go_simp; try with_reducible rfl)
          (repeat (first | simp only [Act.put] | simp only [List.setIfInBounds_toArray] | simp only [List.set_cons_succ] | simp only [List.set_cons_zero]))
          refine wpAnyH_take (i := 9) (oi := ⟨some 81, _, _, _, _, _⟩) (v := ?_) rfl (by kernel_rfl) (by kernel_rfl) (by kernel_rfl) (fun _ _ _ h => h) (Or.inl ⟨by kernel_rfl, ?_⟩) (by assumption) ?_
          rotate_left
          · (intro w hSw; have hs := HCell.out _ hSw; (try dsimp only at hSw); go_simp; try with_reducible rfl)
          (repeat (first | simp only [Act.put] | simp only [List.setIfInBounds_toArray] | simp only [List.set_cons_succ] | simp only [List.set_cons_zero]))
          refine wpAnyH_ready (rs := [7]) (by kernel_rfl) (by simp) ?_
          refine AllReadyH.cons (o := ⟨some 79, _, _, _, _, _⟩) rfl (fun K hK => ?_) AllReadyH.nil
          go_simp
          ((with_reducible refine (HAllB.out _ hHeld).mono ?_); rintro e y3 ⟨A3, c3, rfl, hb, ho3⟩)
          refine hK.out _ _ (by exact hHeld.trans (hb.out.mono hHeld.size)) (fun hHeld => ?_)
          clear hK K
          (repeat (first | simp only [Act.put] | simp only [List.setIfInBounds_toArray] | simp only [List.set_cons_succ] | simp only [List.set_cons_zero]))
          refine wpAnyH_ready (rs := [10]) (by kernel_rfl) (by simp) ?_
          refine AllReadyH.cons (o := ⟨some 82, _, _, _, _, _⟩) rfl (fun K hK => ?_) AllReadyH.nil
          go_simp
          ((with_reducible refine (HSame.out _ _ _ _ _ (ho3.out.below (Below.refl _ _)) (HRow.out _ hHeld)).mono ?_); rintro e y4 ⟨rfl, hb⟩)
          refine hK.out _ _ (by exact hHeld.trans (hb.out.mono hHeld.size)) (fun hHeld => ?_)
          clear hK K
          (repeat (first | simp only [Act.put] | simp only [List.setIfInBounds_toArray] | simp only [List.set_cons_succ] | simp only [List.set_cons_zero]))
          refine wpAnyH_take (i := 11) (oi := ⟨some 83, _, _, _, _, _⟩) (v := ?_) rfl (by kernel_rfl) (by kernel_rfl) (by kernel_rfl) (fun _ _ _ h => h) (Or.inl ⟨by kernel_rfl, ?_⟩) (by assumption) ?_
          rotate_left
          · (intro w hSw; (try dsimp only at hSw); go_simp; try with_reducible rfl)
          (repeat (first | simp only [Act.put] | simp only [List.setIfInBounds_toArray] | simp only [List.set_cons_succ] | simp only [List.set_cons_zero]))
          refine wpAnyH_take (i := 12) (oi := ⟨some 84, _, _, _, _, _⟩) (v := ?_) rfl (by kernel_rfl) (by kernel_rfl) (by kernel_rfl) (fun _ _ _ h => h) (Or.inl ⟨by kernel_rfl, ?_⟩) (by assumption) ?_
          rotate_left
          · (intro w hSw; (try dsimp only at hSw); go_simp; try with_reducible rfl)
          (repeat (first | simp only [Act.put] | simp only [List.setIfInBounds_toArray] | simp only [List.set_cons_succ] | simp only [List.set_cons_zero]))
          refine wpAnyH_ready (rs := [13]) (by kernel_rfl) (by simp) ?_
          refine AllReadyH.cons (o := ⟨some 85, _, _, _, _, _⟩) rfl (fun K hK => ?_) AllReadyH.nil
          go_simp
          ((with_reducible refine (HL.out _).mono ?_); rintro e y5 ⟨rfl, hb'⟩; have hb := Lib.hid hb'; clear hb')
          refine hK.out _ _ (by exact hHeld.trans (hb.out.mono hHeld.size)) (fun hHeld => ?_)
          clear hK K
          (repeat (first | simp only [Act.put] | simp only [List.setIfInBounds_toArray] | simp only [List.set_cons_succ] | simp only [List.set_cons_zero]))
          refine wpAnyH_take (i := 14) (oi := ⟨some 86, _, _, _, _, _⟩) (v := ?_) rfl (by kernel_rfl) (by kernel_rfl) (by kernel_rfl) (fun _ _ _ h => h) (Or.inl ⟨by kernel_rfl, ?_⟩) (by assumption) ?_
          rotate_left
          · (intro w hSw; (try dsimp only at hSw); go_simp; try with_reducible rfl)
          (repeat (first | simp only [Act.put] | simp only [List.setIfInBounds_toArray] | simp only [List.set_cons_succ] | simp only [List.set_cons_zero]))
          refine wpAnyH_take (i := 15) (oi := ⟨some 4, _, _, _, _, _⟩) (v := ?_) rfl (by kernel_rfl) (by kernel_rfl) (by kernel_rfl) (fun _ _ _ h => h) (Or.inl ⟨by kernel_rfl, ?_⟩) (by assumption) ?_
          rotate_left
          · (intro w hSw; (try dsimp only at hSw); go_simp; try with_reducible rfl)
          (repeat (first | simp only [Act.put] | simp only [List.setIfInBounds_toArray] | simp only [List.set_cons_succ] | simp only [List.set_cons_zero]))
          refine wpAnyH_done (by kernel_rfl) ?_ _
          --R1
          go_wp2_with fail
          go_ret
          exact ⟨rfl, HBe.out.trans (hHeld.mono HBe.out.size)⟩
end Go.Proofs.Ytgbmgdffgmablaa

/- The law's prices: two rows of the same numbers. -/
namespace Go.Proofs.Ytgbmgdffgmablaa
open Go.RowKit Go.Shelf Go.Sort Go.Maps

/-- A row of numbers, read. -/
theorem gints_at {w : World} {base n : Nat} {v : Value} {l : List Int} (h : w.ownsRow base 2 1 v n (l.map (fun p => Value.int .i64 p))) : ∃ A c, v = .slice A n c ∧ l.length = n ∧ (n = 0 ∨ ∃ g, A = some ⟨g, 0, none⟩ ∧ ∀ i, i < n → w.cell? ⟨g, i, none⟩ = some (.int .i64 (l[i]!))) := by
  obtain ⟨h1, h2⟩ := h
  rw [List.length_map, Nat.mul_one] at h1
  rcases h2 with ⟨e, h0⟩ | ⟨g, cap, cur, e, _, hg, hc, hm, hs, ht⟩
  · subst h0; exact ⟨none, 0, e, h1, .inl rfl⟩
  · refine ⟨_, _, e, h1, .inr ⟨g, rfl, fun i hi => ?_⟩⟩
    have hi' : i < l.length := by rw [h1]; exact hi
    rw [cell_of_row _ _ _ _ _ _ hg, ← Array.getElem?_toList]
    have : (cur.toList.take (n * 1))[i]? = (l.map (fun p => Value.int .i64 p))[i]? := by rw [ht]
    rw [List.getElem?_take, if_pos (by omega), List.getElem?_map, List.getElem?_eq_getElem hi'] at this
    rw [this, getElem!_pos l i hi']
    rfl
set_option maxHeartbeats 4000000 in
set_option maxRecDepth 100000 in
theorem gprices_c (v u : Value) (n : Nat) (l : List Int) (base base' : Nat) (w : World) (H : w.ownsRow base 2 1 v n (l.map (fun p => Value.int .i64 p))) (K : w.ownsRow base' 2 1 u n (l.map (fun p => Value.int .i64 p))) (hn : n ≤ 1000) :
    Calls Try.prog 21 #[v, u] w fun e w' => e = .returned (.bool true) ∧ Hid (Below w.heap.size w w') := by
  have mixed : Try.prog.follows .mixedOrders = true := by kernel_rfl
  obtain ⟨A, c, rfl, _, h⟩ := gints_at H
  obtain ⟨B, c', rfl, _, k⟩ := gints_at K
  have HH := Lib.hid h
  have KK := Lib.hid k
  clear H K h k
  have hnI : (n : Int) ≤ 1000 := by omega
  have enn : ((n : Int) == (n : Int)) = true := by simp
  go_enter Try.func21, Try.ntmps21
  go_wp2_with fail
  go_loopw [13] (fun s wr => ∃ i q : Nat, s = .int .i64 (i : Int) ∧ wr = w.drewN q ∧ Hid (i ≤ n)) (fun s _ => match s with | .int _ z => n - z.toNat | _ => 0)
  case atStart => exact ⟨0, 0, rfl, rfl, Nat.zero_le _⟩
  case round =>
    obtain ⟨i, q, rfl, rfl, hd⟩ := hrel
    by_cases hi : i < n
    · have hiI : (i : Int) < (n : Int) := by omega
      rcases HH.out with h | ⟨g, rfl, hg⟩
      · omega
      rcases KK.out with h | ⟨g', rfl, hg'⟩
      · omega
      have h1 := hg i hi
      have h2 := hg' i hi
      obtain ⟨x, hx⟩ : ∃ x, l[i]! = x := ⟨_, rfl⟩
      rw [hx] at h1 h2
      have Hi := Lib.hid hi
      clear hg hg' hx hi
      have d1 : ∀ q, (w.drewN q).cell? ⟨g, i, none⟩ = some (.int .i64 x) := fun _ => h1
      have d2 : ∀ q, (w.drewN q).cell? ⟨g', i, none⟩ = some (.int .i64 x) := fun _ => h2
      go_wp2_with fail
      go_quiet (fail)
      go_wp2_with fail
      exact ⟨⟨i + 1, _, rfl, rfl, Hi.out⟩, less_left Hi.out⟩
    · obtain rfl : i = n := by have := hd.out; omega
      have hiI : ¬ (i : Int) < (i : Int) := by omega
      go_wp2_with fail
      go_ret
      exact ⟨rfl, Lib.hid (below_drewN (Below.refl _ _) _)⟩
end Go.Proofs.Ytgbmgdffgmablaa

/- jobberlaw14.Op: opened, by value and in a slice. (By mkopen.py.) -/
namespace Go.Proofs.Ytgbmgdffgmablaa
open Go.RowKit Go.ChangeShapes Go.WideShapes Go.Deep
set_option linter.unusedVariables false

structure Op where
  kind : Int
  id : Int
  acc : Int
  side : Int
  price : Int
  qt : Int
  seq : Int
  n : Int
  qty : Int
instance : Inhabited Op := ⟨⟨0, 0, 0, 0, 0, 0, 0, 0, 0⟩⟩
def Op.ok (w : World) (x : Op) : Prop := (-9223372036854775808 ≤ x.kind ∧ x.kind ≤ 9223372036854775807) ∧ (0 ≤ x.id ∧ x.id ≤ 18446744073709551615) ∧ (-9223372036854775808 ≤ x.acc ∧ x.acc ≤ 9223372036854775807) ∧ (-9223372036854775808 ≤ x.side ∧ x.side ≤ 9223372036854775807) ∧ (-9223372036854775808 ≤ x.price ∧ x.price ≤ 9223372036854775807) ∧ (-9223372036854775808 ≤ x.qt ∧ x.qt ≤ 9223372036854775807) ∧ (0 ≤ x.seq ∧ x.seq ≤ 18446744073709551615) ∧ (0 ≤ x.n ∧ x.n ≤ 18446744073709551615) ∧ (-9223372036854775808 ≤ x.qty ∧ x.qty ≤ 9223372036854775807)
def Op.val (x : Op) : Value := .agg #[(.int .i64 x.kind), (.int .u64 x.id), (.int .i64 x.acc), (.int .i64 x.side), (.int .i64 x.price), (.int .i64 x.qt), (.int .u64 x.seq), (.int .u64 x.n), (.int .i64 x.qty)]
/-- The cells of one at an address. -/
def Op.at (x : Op) (w : World) (b o : Nat) : Prop := w.cell? ⟨b, o, none⟩ = some (.int .i64 x.kind) ∧ w.cell? ⟨b, o + 1, none⟩ = some (.int .u64 x.id) ∧ w.cell? ⟨b, o + 2, none⟩ = some (.int .i64 x.acc) ∧ w.cell? ⟨b, o + 3, none⟩ = some (.int .i64 x.side) ∧ w.cell? ⟨b, o + 4, none⟩ = some (.int .i64 x.price) ∧ w.cell? ⟨b, o + 5, none⟩ = some (.int .i64 x.qt) ∧ w.cell? ⟨b, o + 6, none⟩ = some (.int .u64 x.seq) ∧ w.cell? ⟨b, o + 7, none⟩ = some (.int .u64 x.n) ∧ w.cell? ⟨b, o + 8, none⟩ = some (.int .i64 x.qty)
theorem Op.ok_below {w w' : World} {x : Op} (h : x.ok w) (hb : Below w.heap.size w w') : x.ok w' := by
  exact h
theorem Op.at_below {w w' : World} {x : Op} {b o : Nat} (h : x.at w b o) (hl : b < w.heap.size) (hb : Below w.heap.size w w') : x.at w' b o := by
  unfold Op.at at h ⊢
  simpa only [hb.cell (p := ⟨b, o, none⟩) hl, hb.cell (p := ⟨b, o + 1, none⟩) hl, hb.cell (p := ⟨b, o + 2, none⟩) hl, hb.cell (p := ⟨b, o + 3, none⟩) hl, hb.cell (p := ⟨b, o + 4, none⟩) hl, hb.cell (p := ⟨b, o + 5, none⟩) hl, hb.cell (p := ⟨b, o + 6, none⟩) hl, hb.cell (p := ⟨b, o + 7, none⟩) hl, hb.cell (p := ⟨b, o + 8, none⟩) hl] using h
/-- Some of them in a slice. -/
def Ops (w : World) (a : Option Addr) (len : Nat) (its : List Op) : Prop :=
  its.length = len ∧ len ≤ 9223372036854775807 ∧ (∀ x ∈ its, x.ok w) ∧ (len = 0 ∨ ∃ b off, a = some ⟨b, off, none⟩ ∧ b < w.heap.size ∧ ∀ i, i < len → (its[i]!).at w b (off + i * 9))
theorem Ops.below {w w' : World} {a : Option Addr} {len : Nat} {its : List Op} (h : Ops w a len its) (hb : Below w.heap.size w w') : Ops w' a len its := by
  obtain ⟨h1, hle, h2, h3⟩ := h
  refine ⟨h1, hle, fun x hx => Op.ok_below (h2 x hx) hb, ?_⟩
  rcases h3 with h0 | ⟨b, off, rfl, hlt, hc⟩
  · exact .inl h0
  · exact .inr ⟨b, off, rfl, Nat.lt_of_lt_of_le hlt hb.size, fun i hi => Op.at_below (hc i hi) hlt hb⟩
theorem cells_op : Try.prog.cellsOf 55 = 9 := by kernel_rfl

set_option maxRecDepth 100000 in
set_option maxHeartbeats 2000000 in
theorem open_op {H : Type} {enc : TypeId × Value → H} {w : World} {fuel : Nat} {cs : List Value} {y : DataW H × List MemPlace} (hl : cs.length = 9) (h : DataW.trod enc Try.prog w 0 (fun _ => true) true fuel 55 cs = some y) :
    ∃ x : Op, x.ok w ∧ cs[0]? = some (.int .i64 x.kind) ∧ cs[1]? = some (.int .u64 x.id) ∧ cs[2]? = some (.int .i64 x.acc) ∧ cs[3]? = some (.int .i64 x.side) ∧ cs[4]? = some (.int .i64 x.price) ∧ cs[5]? = some (.int .i64 x.qt) ∧ cs[6]? = some (.int .u64 x.seq) ∧ cs[7]? = some (.int .u64 x.n) ∧ cs[8]? = some (.int .i64 x.qty) := by
  obtain ⟨xs, n', _, _, _, hxl, hg⟩ := DataW.trod_struct Try.underlying55 h
  have at_ : ∀ (j k : Nat) (f : Field), j < 4 → k < 9 → f.offset = k ∧ Try.prog.cellsOf f.type = 1 → DataW.trod enc Try.prog w 0 (fun _ => true) true n' f.type ((cs.drop f.offset).take (Try.prog.cellsOf f.type)) = xs[j]? →
      ∃ v y, cs[k]? = some v ∧ DataW.trod enc Try.prog w 0 (fun _ => true) true n' f.type [v] = some y := by
    intro j k f hj hk' ⟨ho, hk⟩ htr
    rw [ho, hk] at htr
    have hjl : k < cs.length := by omega
    have e1 : (cs.drop k).take 1 = [cs[k]] := by
      rw [List.drop_eq_getElem_cons hjl]; rfl
    rw [e1] at htr
    have hxj : j < xs.length := by rw [hxl]; exact hj
    rw [List.getElem?_eq_getElem hxj] at htr
    exact ⟨_, _, List.getElem?_eq_getElem hjl, htr⟩
  have g0 := hg 0 _ rfl
  have g1 := hg 1 _ rfl
  have g2 := hg 2 _ rfl
  have g3 := hg 3 _ rfl
  obtain ⟨v0, y0, p0, q0⟩ := at_ 0 0 _ (by omega) (by omega) ⟨rfl, by kernel_rfl⟩ g0
  obtain ⟨v7, y7, p7, q7⟩ := at_ 2 7 _ (by omega) (by omega) ⟨rfl, by kernel_rfl⟩ g2
  obtain ⟨v8, y8, p8, q8⟩ := at_ 3 8 _ (by omega) (by omega) ⟨rfl, by kernel_rfl⟩ g3
  have hx1 : 1 < xs.length := by rw [hxl]; decide
  rw [List.getElem?_eq_getElem hx1] at g1
  have g1' : DataW.trod enc Try.prog w 0 (fun _ => true) true n' 24 ((cs.drop 1).take (Try.prog.cellsOf 24)) = some xs[1] := g1
  rw [cells_od] at g1'
  obtain ⟨x, hx, p1, p2, p3, p4, p5, p6⟩ := open_od (by rw [List.length_take, List.length_drop]; omega) g1'
  obtain ⟨k0, e0, _, w0⟩ := DataW.trod_int Try.underlying3 q0
  obtain ⟨k7, e7, _, w7⟩ := DataW.trod_int Try.underlying22 q7
  obtain ⟨k8, e8, _, w8⟩ := DataW.trod_int Try.underlying2 q8
  injection e0 with e0; injection e7 with e7; injection e8 with e8
  subst e0; subst e7; subst e8
  have key : ∀ j u, j < 6 → ((cs.drop 1).take 6)[j]? = some u → cs[j + 1]? = some u := fun j u hj h => by
    rw [List.getElem?_take, if_pos hj, List.getElem?_drop, Nat.add_comm] at h; exact h
  obtain ⟨o1, o2, o3, o4, o5, o6⟩ := hx
  exact ⟨⟨k0, x.id, x.acc, x.side, x.price, x.qty, x.seq, k7, k8⟩, ⟨bounds_i64 w0, o1, o2, o3, o4, o5, o6, bounds_u64 w7, bounds_i64 w8⟩, p0, key 0 _ (by omega) p1, key 1 _ (by omega) p2, key 2 _ (by omega) p3, key 3 _ (by omega) p4, key 4 _ (by omega) p5, key 5 _ (by omega) p6, p7, p8⟩

set_option maxRecDepth 100000 in
set_option maxHeartbeats 2000000 in
theorem open_op_val {H : Type} {enc : TypeId × Value → H} {w : World} {r : Reach} {b0 : Nat} {v : Value} {d : DataW H} {p : List MemPlace} (hv : Value.okWide Try.prog w r b0 55 v) (h : DataW.Trod enc Try.prog w 0 (fun _ => true) true 55 v d p) : ∃ x : Op, x.ok w ∧ v = x.val := by
  obtain ⟨cs, rfl, hsz⟩ := okWide_struct Try.underlying55 hv
  obtain ⟨fuel, hf⟩ := h
  have hl : cs.toList.length = 9 := by rw [Array.length_toList, hsz, cells_op]
  obtain ⟨x, hx, p0, p1, p2, p3, p4, p5, p6, p7, p8⟩ := open_op hl hf
  refine ⟨x, hx, ?_⟩
  unfold Op.val
  congr 1
  apply Array.ext'
  match cs.toList, hl, p0, p1, p2, p3, p4, p5, p6, p7, p8 with
  | [v0, v1, v2, v3, v4, v5, v6, v7, v8], _, p0, p1, p2, p3, p4, p5, p6, p7, p8 => simp at p0 p1 p2 p3 p4 p5 p6 p7 p8; simp [p0, p1, p2, p3, p4, p5, p6, p7, p8]

set_option maxRecDepth 100000 in
set_option maxHeartbeats 2000000 in
theorem open_ops {H : Type} {enc : TypeId × Value → H} {w : World} {a : Option Addr} {len cap : Nat} {d : DataW H} {p : List MemPlace}
    (h : DataW.Trod enc Try.prog w 0 (fun _ => true) true 53 (.slice a len cap) d p) : ∃ its, Ops w a len its ∧ len ≤ cap ∧ cap ≤ maxLen := by
  obtain ⟨fuel, hf⟩ := h
  have hlt := DataW.trod_lt _ _ _ _ hf
  rcases open_slice Try.underlying53 hf with ⟨hcs, _⟩ | ⟨x, l, c, m, n, D, Pl, hcs, _, hl, hm, hmm, hx, hi⟩
  · simp [Value.cells] at hcs
    obtain ⟨rfl, rfl, rfl⟩ := hcs
    exact ⟨[], ⟨rfl, by omega, by simp, .inl rfl⟩, Nat.le_refl _, Nat.zero_le _⟩
  · simp [Value.cells] at hcs
    obtain ⟨rfl, rfl, rfl⟩ := hcs
    rw [if_pos rfl] at hmm
    subst hmm
    have one : ∀ i, i < len → ∃ y : Op, y.ok w ∧ w.cell? ((x.add (i * 9)).add 0) = some (.int .i64 y.kind) ∧ w.cell? ((x.add (i * 9)).add 1) = some (.int .u64 y.id) ∧ w.cell? ((x.add (i * 9)).add 2) = some (.int .i64 y.acc) ∧ w.cell? ((x.add (i * 9)).add 3) = some (.int .i64 y.side) ∧ w.cell? ((x.add (i * 9)).add 4) = some (.int .i64 y.price) ∧ w.cell? ((x.add (i * 9)).add 5) = some (.int .i64 y.qt) ∧ w.cell? ((x.add (i * 9)).add 6) = some (.int .u64 y.seq) ∧ w.cell? ((x.add (i * 9)).add 7) = some (.int .u64 y.n) ∧ w.cell? ((x.add (i * 9)).add 8) = some (.int .i64 y.qty) := by
      intro i hil
      obtain ⟨cs', hc, ht⟩ := hi i (by omega)
      rw [cells_op] at hc
      obtain ⟨_, hlen, hcell⟩ := World.cells?_some hc
      obtain ⟨y, hy, p0, p1, p2, p3, p4, p5, p6, p7, p8⟩ := open_op hlen ht
      exact ⟨y, hy, by rw [hcell 0 (by omega), p0], by rw [hcell 1 (by omega), p1], by rw [hcell 2 (by omega), p2], by rw [hcell 3 (by omega), p3], by rw [hcell 4 (by omega), p4], by rw [hcell 5 (by omega), p5], by rw [hcell 6 (by omega), p6], by rw [hcell 7 (by omega), p7], by rw [hcell 8 (by omega), p8]⟩
    refine ⟨(List.range len).map fun i => if h : i < len then Classical.choose (one i h) else default, ⟨by simp, by unfold maxLen at hm; omega, fun z hz => ?_, ?_⟩, hl, hm⟩
    · obtain ⟨i, hi1, rfl⟩ := List.mem_map.1 hz
      have hil : i < len := by simpa using hi1
      rw [dif_pos hil]
      exact (Classical.choose_spec (one i hil)).1
    · by_cases h0 : len = 0
      · exact .inl h0
      obtain ⟨b, off, spot⟩ := x
      obtain ⟨y, _, hy, _⟩ := one 0 (by omega)
      have hspot : spot = none := by simpa [Addr.add] using World.cell?_spot hy
      subst hspot
      have hb : b < w.heap.size := World.block_lt_of_cell? w ⟨b, off + 0 * 9 + 0, none⟩ (by simpa only [addr_add] using hy)
      refine .inr ⟨b, off, rfl, hb, fun i hil => ?_⟩
      have e : ((List.range len).map fun i => if h : i < len then Classical.choose (one i h) else (default : Op))[i]! = Classical.choose (one i hil) := by
        rw [List.getElem!_eq_getElem?_getD, List.getElem?_map, List.getElem?_range hil]
        simp [hil]
      have hs := (Classical.choose_spec (one i hil)).2
      rw [e]
      unfold Op.at
      simpa only [addr_add, ← Nat.add_assoc, Nat.add_zero] using hs
end Go.Proofs.Ytgbmgdffgmablaa

/- GroveSides: what stays of a side. -/
namespace Go.Proofs.Ytgbmgdffgmablaa
open Go.RowKit Go.Shelf Go.Sort Go.Lib Go.Maps
set_option linter.unusedVariables false

def gRs (s1 s2 : Gd) (sd : Int) : List Rw := rsq s1.rs s2.rs sd
theorem gWhole.ids {w : World} {p : Nat} {m : Nat × Nat} {s1 s2 : Gd} (h : gWhole w p m s1 s2) : Ids (bookL s1.rs s2.rs) := by
  obtain ⟨D, h⟩ := h; exact h.ids
/-- A book of the call's own. -/
structure gOne (w W : World) (p : Nat) (m : Nat × Nat) (s1 s2 : Gd) : Prop where
  wh : gWhole W p m s1 s2
  be : Below w.heap.size w W
  lo : ∀ k, gft p m s1 s2 k → w.heap.size ≤ k
/-- A turn of the book. -/
def gTurn (W W' : World) (p : Nat) (m : Nat × Nat) (s1 s2 s1' s2' : Gd) : Prop :=
  gWhole W' p m s1' s2' ∧ Fr (gft p m s1 s2) W W' ∧ ∀ k, gft p m s1' s2' k → gft p m s1 s2 k ∨ W.heap.size ≤ k
theorem gOne.below {w W W' : World} {p : Nat} {m : Nat × Nat} {s1 s2 : Gd} (h : gOne w W p m s1 s2) (hb : Below W.heap.size W W') : gOne w W' p m s1 s2 := ⟨h.wh.below hb, h.be.trans (hb.mono h.be.size), h.lo⟩
theorem gOne.turn {w W W' : World} {p : Nat} {m : Nat × Nat} {s1 s2 s1' s2' : Gd} (h : gOne w W p m s1 s2) (t : gTurn W W' p m s1 s2 s1' s2') : gOne w W' p m s1' s2' :=
  ⟨t.1, h.be.trans (t.2.1.below h.lo h.be.size), fun k hk => (t.2.2 k hk).elim (h.lo k) (fun e => Nat.le_trans h.be.size e)⟩
theorem gturn_same {W W' : World} {p : Nat} {m : Nat × Nat} {s1 s2 : Gd} (H : gWhole W p m s1 s2) (hb : Below W.heap.size W W') : gTurn W W' p m s1 s2 s1 s2 := ⟨H.below hb, Fr.of_below hb, fun _ h => .inl h⟩
/-- Add at another side leaves the side. -/
theorem gadd_side {W W' : World} {p : Nat} {m : Nat × Nat} {s1 s2 s1' s2' : Gd} {o : Od} {c sd : Int} (H : gWhole W p m s1 s2) (k : gAddIs W W' p m s1 s2 s1' s2' o c) (hs : ¬ o.side = sd) (h2 : sd = 1 ∨ sd = 2) : gTurn W W' p m s1 s2 s1' s2' ∧ gRs s1' s2' sd = gRs s1 s2 sd := by
  refine ⟨gadd_whole H k, ?_⟩
  rcases k with ⟨_, _, rfl, rfl, _⟩ | ⟨_, _, _, rfl, rfl, _⟩ | ⟨hg, _, ⟨_, _, rfl, rfl, _⟩ | ⟨_, _, hp⟩⟩
  · rfl
  · rfl
  · rfl
  · rcases good_side hg with e | e
    · rcases h2 with rfl | rfl
      · exact absurd e hs
      · rw [hp.e2 e]; rfl
    · rcases h2 with rfl | rfl
      · rw [hp.e1 e]; rfl
      · exact absurd e hs
theorem gcut_side {W W' : World} {p : Nat} {m : Nat × Nat} {s1 s2 s1' s2' : Gd} {id qty c sd : Int} {y : Od} (H : gWhole W p m s1 s2) (k : gCutIs W W' p m s1 s2 s1' s2' id qty c) (hy : GetIs id (bookL s1.rs s2.rs) (some y)) (hs : ¬ y.side = sd) (h2 : sd = 1 ∨ sd = 2) : gTurn W W' p m s1 s2 s1' s2' ∧ gRs s1' s2' sd = gRs s1 s2 sd := by
  rcases k with ⟨_, hno, _⟩ | ⟨o, ho, hid, k⟩
  · exact absurd hy.2 (hno y hy.1)
  obtain rfl : y = o := ids_eq H.ids hy.1 ho (hy.2.trans hid.symm)
  rcases k with ⟨_, _, rfl, rfl, hb⟩ | ⟨_, _, _, ht⟩ | ⟨_, _, _, hl⟩
  · exact ⟨gturn_same H hb, rfl⟩
  · refine ⟨⟨ht.tu.wh, ht.tu.fr, ht.tu.ft⟩, ?_⟩
    rcases good_side (H.ok y ho).2 with e | e
    · rcases h2 with rfl | rfl
      · exact absurd e hs
      · rw [ht.e2 e]; rfl
    · rcases h2 with rfl | rfl
      · rw [ht.e1 e]; rfl
      · exact absurd e hs
  · refine ⟨⟨hl.tu.wh, hl.tu.fr, hl.tu.ft⟩, ?_⟩
    rcases good_side (H.ok y ho).2 with e | e
    · rcases h2 with rfl | rfl
      · exact absurd e hs
      · rw [hl.e2 e]; rfl
    · rcases h2 with rfl | rfl
      · rw [hl.e1 e]; rfl
      · exact absurd e hs
/-- What is kept beside the book. -/
structure gKept (w W : World) (p : Nat) (m : Nat × Nat) (s1 s2 : Gd) (sd : Int) (R : List Rw) (v : Value) (n : Nat) (l : List Int) (fb : Nat) (z : Od) : Prop where
  one : gOne w W p m s1 s2
  rs : gRs s1 s2 sd = R
  was : W.ownsRow 0 2 1 v n (l.map (fun p => Value.int .i64 p))
  bx : Cl 24 W fb (OC z)
  nf : ¬ gft p m s1 s2 fb
  nv : ∀ j, v.ownBlock = some j → ¬ gft p m s1 s2 j
section
variable {w W W' : World} {p n fb : Nat} {m : Nat × Nat} {s1 s2 s1' s2' : Gd} {sd : Int} {R : List Rw} {v : Value} {l : List Int} {z : Od}
theorem gKept.below (h : gKept w W p m s1 s2 sd R v n l fb z) (hb : Below W.heap.size W W') : gKept w W' p m s1 s2 sd R v n l fb z :=
  ⟨h.one.below hb, h.rs, own_low h.was hb, (hb.block _ (blk_lt h.bx)).trans h.bx, h.nf, h.nv⟩
theorem gKept.turn (h : gKept w W p m s1 s2 sd R v n l fb z) (t : gTurn W W' p m s1 s2 s1' s2' ∧ gRs s1' s2' sd = gRs s1 s2 sd) : gKept w W' p m s1' s2' sd R v n l fb z := by
  obtain ⟨t, e⟩ := t
  refine ⟨h.one.turn t, e.trans h.rs, own_fr h.was t.2.1 (fun j hj => h.nv j hj), t.2.1.blk h.bx h.nf, fun hk => ?_, fun j hj hk => ?_⟩
  · rcases t.2.2 fb hk with h' | h'
    · exact h.nf h'
    · have := blk_lt h.bx; omega
  · rcases t.2.2 j hk with h' | h'
    · exact h.nv j hj h'
    · have := (own_lt h.was j hj).2; omega
theorem gturn_cl {T : TypeId} {c : Nat} {cs : Array Value} (hc : Cl T W c cs) (hn : ¬ gft p m s1 s2 c) (t : gTurn W W' p m s1 s2 s1' s2' ∧ gRs s1' s2' sd = gRs s1 s2 sd) : Cl T W' c cs := t.1.2.1.blk hc hn
end
end Go.Proofs.Ytgbmgdffgmablaa

/- GroveSides, walked. (By mklej.py.) -/
namespace Go.Proofs.Ytgbmgdffgmablaa
open Go.RowKit Go.Shelf Go.Sort Go.Lib Go.Maps
set_option linter.unusedVariables false

theorem gone_new {w w1 : World} {p : Nat} {m : Nat × Nat} {s1 s2 : Gd} (h : gNewIs w w1 p m s1 s2) : gOne w w1 p m s1 s2 := ⟨h.wh, h.be, h.lo⟩
theorem gprices_in {W : World} {p : Nat} {m : Nat × Nat} {s1 s2 : Gd} {sd : Int} {R : List Rw} (H : gWhole W p m s1 s2) (hR : gRs s1 s2 sd = R) (hsd : (Lit.int .i64 sd).wf = true) :
    Calls Try.prog 14 #[.pointer (some ⟨p, 0, none⟩), .int .i64 sd] W fun e w' => ∃ v, e = .returned v ∧ Hid (w'.ownsRow W.heap.size 2 1 v R.length ((R.map (·.pr)).map (fun p => Value.int .i64 p)) ∧ Below W.heap.size W w') := by
  obtain ⟨D, h⟩ := H
  subst hR
  have := gPrices_c p m.1 m.2 D s1.g s2.g s1.rs s2.rs sd hsd W h
  rw [prV_map] at this
  exact this
theorem gbest_in {W : World} {p : Nat} {m : Nat × Nat} {s1 s2 : Gd} {sd : Int} {R : List Rw} (H : gWhole W p m s1 s2) (hR : gRs s1 s2 sd = R) (hsd : (Lit.int .i64 sd).wf = true) :
    Calls Try.prog 9 #[.pointer (some ⟨p, 0, none⟩), .int .i64 sd] W fun e w' => e = .returned (.tuple #[optV (fstO R), .bool (fstO R).isSome]) ∧ Hid (Below W.heap.size W w') := by
  obtain ⟨D, h⟩ := H
  subst hR
  exact gBest_c p m.1 m.2 D s1.g s2.g s1.rs s2.rs sd hsd W h
theorem om_get {L : List Od} (hi : Ids L) (id : Int) : GetIs id L (omL L id) := by
  cases h : omL L id with
  | some x => exact (omL_some hi).1 h
  | none =>
    intro x hx e
    have := (omL_some hi (id := id) (x := x)).2 ⟨hx, e⟩
    rw [h] at this
    cases this
theorem hGet (p : Nat) (m : Nat × Nat) (s1 s2 : Gd) (id : Int) (hs : (Lit.int .u64 id).wf = true) (W : World) (H : gWhole W p m s1 s2) :
    Calls Try.prog 7 #[.pointer (some ⟨p, 0, none⟩), .int .u64 id] W fun e w' => ∃ r, e = .returned (.tuple #[optV r, .bool r.isSome]) ∧ Hid (GetIs id (bookL s1.rs s2.rs) r ∧ Below W.heap.size W w') := by
  have hi := H.ids
  obtain ⟨D, h⟩ := H
  refine (gGet_c p m.1 m.2 D s1.g s2.g s1.rs s2.rs id hs W h).mono ?_
  rintro e w' ⟨rfl, hb⟩
  refine ⟨omL (bookL s1.rs s2.rs) id, ?_, Lib.hid ⟨om_get hi id, hb.out⟩⟩
  cases omL (bookL s1.rs s2.rs) id <;> rfl
theorem gside_len {W : World} {p : Nat} {m : Nat × Nat} {s1 s2 : Gd} (H : gWhole W p m s1 s2) (sd : Int) : (gRs s1 s2 sd).length ≤ 64 := by
  have hl := H.len
  obtain ⟨D, h⟩ := H
  unfold bookL at hl
  rw [List.length_append] at hl
  have h1 := flat_ge s1.rs h.ok1.some
  have h2 := flat_ge s2.rs h.ok2.some
  unfold gRs rsq
  (repeat' split)
  · omega
  · omega
  · exact Nat.zero_le _
theorem gopt_agg (r : Option Od) : ∃ z, optV r = .agg (OC z) ∧ ∀ y, r = some y → z = y := by
  cases r with
  | none => exact ⟨_, rfl, fun y h => by cases h⟩
  | some x => exact ⟨x, rfl, fun y h => by injection h⟩
theorem gnine_of {T : TypeId} {W : World} {c : Nat} {x : Op} (h : Cl T W c #[.int .i64 x.kind, .int .u64 x.id, .int .i64 x.acc, .int .i64 x.side, .int .i64 x.price, .int .i64 x.qt, .int .u64 x.seq, .int .u64 x.n, .int .i64 x.qty]) :
    W.cell? ⟨c, 0, none⟩ = some (.int .i64 x.kind) ∧ W.cell? ⟨c, 1, none⟩ = some (.int .u64 x.id) ∧ W.cell? ⟨c, 2, none⟩ = some (.int .i64 x.acc) ∧ W.cell? ⟨c, 3, none⟩ = some (.int .i64 x.side) ∧ W.cell? ⟨c, 4, none⟩ = some (.int .i64 x.price) ∧ W.cell? ⟨c, 5, none⟩ = some (.int .i64 x.qt) ∧ W.cell? ⟨c, 6, none⟩ = some (.int .u64 x.seq) ∧ W.cell? ⟨c, 7, none⟩ = some (.int .u64 x.n) ∧ W.cell? ⟨c, 8, none⟩ = some (.int .i64 x.qty) :=
  ⟨(h.c 0).trans rfl, (h.c 1).trans rfl, (h.c 2).trans rfl, (h.c 3).trans rfl, (h.c 4).trans rfl, (h.c 5).trans rfl, (h.c 6).trans rfl, (h.c 7).trans rfl, (h.c 8).trans rfl⟩
set_option maxHeartbeats 8000000 in
set_option maxRecDepth 100000 in
theorem gsides_w1 (a0 : Option Addr) (len0 cap0 : Nat) (its : List Od) (a1 : Option Addr) (len1 cap1 : Nat) (ops : List Op) (w : World) (hO : Ods w a0 len0 its) (hP : Ops w a1 len1 ops) (h64 : len0 ≤ 64) (h60 : len1 ≤ 60) :
    Calls Try.prog 5 #[.slice a0 len0 cap0, .slice a1 len1 cap1, .int .i64 1] w fun e w' => e = .returned (.bool true) ∧ Below w.heap.size w w' := by
  have mixed : Try.prog.follows .mixedOrders = true := by kernel_rfl
  have HL := Lib.hid lives14_c
  have hz : ¬ (64 : Int) < (len0 : Int) := by omega
  have hz1 : ¬ (60 : Int) < (len1 : Int) := by omega
  have HN0 : Hid (its.length = len0) := hO.1
  have HN1 : Hid (ops.length = len1) := hP.1
  have HO := Lib.hid hO
  have HP := Lib.hid hP
  have H64 := Lib.hid h64
  have H60 := Lib.hid h60
  have HN := Lib.hid (gNew_is w)
  clear hO hP h64 h60
  go_enter Try.func5, Try.ntmps5
  go_wp2_with ((with_reducible refine HN.out.mono ?_); rintro e w1 ⟨pa, ma, z1, z2, rfl, hn1⟩; clear HN)
  have I0 := Lib.hid (gone_new hn1.out)
  clear hn1
  go_loopw [39] (fun s wr => ∃ (k : Nat) (s1 s2 : Gd), s = .int .i64 (k : Int) ∧ Hid (k ≤ len0 ∧ gOne w wr pa ma s1 s2)) (fun s _ => match s with | .int _ z => len0 - z.toNat | _ => 0)
  case atStart => exact ⟨0, z1, z2, rfl, Nat.zero_le _, I0.out⟩
  case round =>
    clear I0
    obtain ⟨k, s1, s2, rfl, hd⟩ := hrel
    by_cases hk : k < len0
    · have hkI : (k : Int) < (len0 : Int) := by omega
      have h1 := (HO.out.below hd.out.2.be).2.2.2
      rcases h1 with h1 | ⟨b, off, rfl, _, hc⟩
      · omega
      have hx := hc k hk
      clear hc
      have HA : Hid (∀ W, gWhole W pa ma s1 s2 → Calls Try.prog 10 #[.pointer (some ⟨pa, 0, none⟩), .agg #[.int .u64 (k : Int), .int .i64 (its[k]!).acc, .int .i64 (its[k]!).side, .int .i64 (its[k]!).price, .int .i64 (its[k]!).qty, .int .u64 (its[k]!).seq]] W fun e w' => ∃ c s1' s2', e = .returned (.int .i64 c) ∧ Hid (gAddIs W w' pa ma s1 s2 s1' s2' (oN its k) c)) := fun W h => gAdd_c pa ma s1 s2 (oN its k) W h (oN_ok (w := W) HO.out.2.2.1 (by rw [HN0.out]; exact hk) (by rw [HN0.out]; exact H64.out))
      obtain ⟨x, ex⟩ : ∃ x, its[k]! = x := ⟨_, rfl⟩
      rw [ex] at hx HA
      obtain ⟨x0, x1, x2, x3, x4, x5⟩ := hx
      have Hk := Lib.hid hk
      clear hk
      have HW := Lib.hid (hd.out.2.below ((Below.refl _ _).alloc (Nat.le_refl _) (.cells (OC ⟨(k : Int), x.acc, x.side, x.price, x.qty, x.seq⟩) 24)))
      go_wp2_with ((with_reducible refine (HA.out _ HW.out.wh).mono ?_); rintro e w3 ⟨cc, t1, t2, rfl, ha⟩)
      have Hs := HW.out.turn (gadd_whole HW.out.wh ha.out)
      exact ⟨⟨k + 1, t1, t2, rfl, Hk.out, Hs⟩, less_left Hk.out⟩
    · obtain rfl : k = len0 := by have := hd.out.1; omega
      have hkI : ¬ (k : Int) < (k : Int) := by omega
      obtain ⟨R, hR⟩ : ∃ R, gRs s1 s2 1 = R := ⟨_, rfl⟩
      have HO1 := Lib.hid hd.out.2
      have HPr := Lib.hid (gprices_in (sd := 1) HO1.out.wh hR (by decide))
      have HRl : Hid (R.length ≤ 64) := by rw [← hR]; exact gside_len HO1.out.wh 1
      have HBe : Hid (∀ W p (m : Nat × Nat) s1 s2, gWhole W p m s1 s2 → gRs s1 s2 1 = R → Calls Try.prog 9 #[.pointer (some ⟨p, 0, none⟩), .int .i64 1] W fun e w' => e = .returned (.tuple #[optV (fstO R), .bool (fstO R).isSome]) ∧ Hid (Below W.heap.size W w')) := fun W p m s1 s2 H hR => by
        exact gbest_in H hR (by decide)
      obtain ⟨z, hz0, _⟩ := gopt_agg (fstO R)
      obtain ⟨bb, hbb⟩ : ∃ bb, (fstO R).isSome = bb := ⟨_, rfl⟩
      rw [hz0, hbb] at HBe
      have HRs := Lib.hid hR
      clear hz0 hbb hR hk hd
      go_wp2_with (first | ((with_reducible refine HPr.out.mono ?_); rintro e w2 ⟨v, rfl, hv⟩; clear HPr) | ((with_reducible refine (HBe.out _ _ _ _ _ (HO1.out.below hv.out.2).wh HRs.out).mono ?_); rintro e w3 ⟨rfl, hb3⟩))
      have HK0 : Hid (gKept w (w3.alloc (.cells (OC z) 24)) pa ma s1 s2 1 R v R.length (R.map (·.pr)) w3.heap.size z) := by
        have hl := fun {k} => gft.lt HO1.out.wh k
        refine gKept.mk (((HO1.out.below hv.out.2).below hb3.out).below ((Below.refl _ _).alloc (Nat.le_refl _) _)) HRs.out ((own_low (own_base hv.out.1 (Nat.zero_le _)) hb3.out).alloc _) (hd_last rfl) (fun h => ?_) (fun j hj h => ?_)
        · have := hl h
          have := hv.out.2.size
          have := hb3.out.size
          omega
        · have := hl h
          have := (hv.out.1.lt j hj).1
          omega
      obtain ⟨fb, hfb⟩ : ∃ fb, w3.heap.size = fb := ⟨_, rfl⟩
      obtain ⟨W3, hW3⟩ : ∃ W3, w3.alloc (.cells (OC z) 24) = W3 := ⟨_, rfl⟩
      obtain ⟨n, hn⟩ : ∃ n, R.length = n := ⟨_, rfl⟩
      obtain ⟨l, hl⟩ : ∃ l, R.map (·.pr) = l := ⟨_, rfl⟩
      rw [hfb, hW3, hn, hl] at HK0
      rw [hfb, hW3]
      have HRn := Lib.hid (And.intro hn hl)
      rw [hn] at HRl
      clear hfb hW3 hn hl hb3 hv HO1
      clear w2 w3
      go_loopw [62] (fun s wr => ∃ (i : Nat) (s1 s2 : Gd), s = .int .i64 (i : Int) ∧ Hid (i ≤ len1 ∧ gKept w wr pa ma s1 s2 1 R v n l fb z)) (fun s _ => match s with | .int _ z => len1 - z.toNat | _ => 0)
      case atStart => exact ⟨0, s1, s2, rfl, Nat.zero_le _, HK0.out⟩
      case round =>
        clear HK0 HRs
        clear s1 s2
        obtain ⟨i, s1, s2, rfl, hd⟩ := hrel
        by_cases hi : i < len1
        · have hiI : (i : Int) < (len1 : Int) := by omega
          have h1 := (HP.out.below hd.out.2.one.be).2.2.2
          rcases h1 with h1 | ⟨b, off, rfl, _, hc⟩
          · omega
          have hx := hc i hi
          have hok := HP.out.2.2.1 (ops[i]!) (by rw [getElem!_pos ops i (by rw [HN1.out]; exact hi)]; exact List.getElem_mem _)
          clear hc
          obtain ⟨⟨xk, xid, xacc, xsd, xpr, xqt, xsq, xn, xq⟩, ex⟩ : ∃ x, ops[i]! = x := ⟨_, rfl⟩
          rw [ex] at hx hok
          obtain ⟨x0, x1, x2, x3, x4, x5, x6, x7, x8⟩ := hx
          dsimp only at x0 x1 x2 x3 x4 x5 x6 x7 x8
          have Hi := Lib.hid hi
          have hoo : Od.ok w ⟨xid, xacc, xsd, xpr, xqt, xsq⟩ := ⟨hok.2.1, hok.2.2.1, hok.2.2.2.1, hok.2.2.2.2.1, hok.2.2.2.2.2.1, hok.2.2.2.2.2.2.1⟩
          have HAd : Hid (∀ W, gWhole W pa ma s1 s2 → Calls Try.prog 10 #[.pointer (some ⟨pa, 0, none⟩), .agg #[.int .u64 xid, .int .i64 xacc, .int .i64 xsd, .int .i64 xpr, .int .i64 xqt, .int .u64 xsq]] W fun e w' => ∃ c s1' s2', e = .returned (.int .i64 c) ∧ Hid (gAddIs W w' pa ma s1 s2 s1' s2' ⟨xid, xacc, xsd, xpr, xqt, xsq⟩ c)) := fun W h => gAdd_c pa ma s1 s2 ⟨xid, xacc, xsd, xpr, xqt, xsq⟩ W h hoo
          have HX := Lib.hid (WalkArith.wf_u64 hok.2.2.2.2.2.2.2.1)
          have HCt : Hid (∀ W, gWhole W pa ma s1 s2 → Calls Try.prog 11 #[.pointer (some ⟨pa, 0, none⟩), .int .u64 xn, .int .i64 xq] W fun e w' => ∃ c s1' s2', e = .returned (.int .i64 c) ∧ Hid (gCutIs W w' pa ma s1 s2 s1' s2' xn xq c)) := fun W h => gCut_c pa ma s1 s2 xn xq HX.out W h
          have HGt : Hid (∀ W, gWhole W pa ma s1 s2 → Calls Try.prog 7 #[.pointer (some ⟨pa, 0, none⟩), .int .u64 xn] W fun e w' => ∃ r, e = .returned (.tuple #[optV r, .bool r.isSome]) ∧ Hid (GetIs xn (bookL s1.rs s2.rs) r ∧ Below W.heap.size W w')) := fun W h => hGet pa ma s1 s2 xn HX.out W h
          have HW := Lib.hid (hd.out.2.below ((Below.refl _ _).alloc (Nat.le_refl _) (.cells #[.int .i64 xk, .int .u64 xid, .int .i64 xacc, .int .i64 xsd, .int .i64 xpr, .int .i64 xqt, .int .u64 xsq, .int .u64 xn, .int .i64 xq] 55)))
          clear hok hi hoo
          by_cases hk : xk = 0
          · subst hk
            by_cases hs : xsd = 1
            · subst hs
              go_wp2_with ((with_reducible refine (HGt.out _ HW.out.one.wh).mono ?_); rintro e w1 ⟨r, rfl, hr⟩; obtain ⟨z', hz', hzy⟩ := gopt_agg r; obtain ⟨b2, hb2⟩ : ∃ b2, r.isSome = b2 := ⟨_, rfl⟩; rw [hz', hb2]; have HZy := Lib.hid hzy; have HB2 := Lib.hid hb2; clear hz' hzy hb2; have KK := Lib.hid ((HW.out.below hr.out.2).below ((Below.refl _ _).alloc (Nat.le_refl _) (.cells (OC z') 24))); have hCl : Cl 55 (w1.alloc (.cells (OC z') 24)) wr.heap.size #[.int .i64 0, .int .u64 xid, .int .i64 xacc, .int .i64 1, .int .i64 xpr, .int .i64 xqt, .int .u64 xsq, .int .u64 xn, .int .i64 xq] := hd_prev (Nat.lt_of_lt_of_le (Nat.lt_succ_self _) (by have := hr.out.2.size; rw [World.size_alloc] at this; exact this)) ((hr.out.2.block _ (by rw [World.size_alloc]; exact Nat.lt_succ_self _)).trans (hd_last rfl)); have HCl := Lib.hid hCl; have HNf : Hid (¬ gft pa ma s1 s2 wr.heap.size) := (fun h => Nat.lt_irrefl _ (gft.lt hd.out.2.one.wh _ h)); obtain ⟨f0, f1, f2, f3, f4, f5, f6, f7, f8⟩ := gnine_of (x := ⟨0, xid, xacc, 1, xpr, xqt, xsq, xn, xq⟩) hCl; dsimp only at f0 f1 f2 f3 f4 f5 f6 f7 f8; clear hCl HGt x0 x1 x2 x3 x4 x5 x6 x7 x8)
              exact ⟨⟨i + 1, s1, s2, rfl, Hi.out, KK.out⟩, less_left Hi.out⟩
            · go_wp2_with (first | ((with_reducible refine (HGt.out _ HW.out.one.wh).mono ?_); rintro e w1 ⟨r, rfl, hr⟩; obtain ⟨z', hz', hzy⟩ := gopt_agg r; obtain ⟨b2, hb2⟩ : ∃ b2, r.isSome = b2 := ⟨_, rfl⟩; rw [hz', hb2]; have HZy := Lib.hid hzy; have HB2 := Lib.hid hb2; clear hz' hzy hb2; have KK := Lib.hid ((HW.out.below hr.out.2).below ((Below.refl _ _).alloc (Nat.le_refl _) (.cells (OC z') 24))); have hCl : Cl 55 (w1.alloc (.cells (OC z') 24)) wr.heap.size #[.int .i64 0, .int .u64 xid, .int .i64 xacc, .int .i64 xsd, .int .i64 xpr, .int .i64 xqt, .int .u64 xsq, .int .u64 xn, .int .i64 xq] := hd_prev (Nat.lt_of_lt_of_le (Nat.lt_succ_self _) (by have := hr.out.2.size; rw [World.size_alloc] at this; exact this)) ((hr.out.2.block _ (by rw [World.size_alloc]; exact Nat.lt_succ_self _)).trans (hd_last rfl)); have HCl := Lib.hid hCl; have HNf : Hid (¬ gft pa ma s1 s2 wr.heap.size) := (fun h => Nat.lt_irrefl _ (gft.lt hd.out.2.one.wh _ h)); obtain ⟨f0, f1, f2, f3, f4, f5, f6, f7, f8⟩ := gnine_of (x := ⟨0, xid, xacc, xsd, xpr, xqt, xsq, xn, xq⟩) hCl; dsimp only at f0 f1 f2 f3 f4 f5 f6 f7 f8; clear hCl HGt x0 x1 x2 x3 x4 x5 x6 x7 x8) | ((with_reducible refine (HAd.out _ KK.out.one.wh).mono ?_); rintro e w5 ⟨cc, t1, t2, rfl, ha⟩; have HF5 := Lib.hid (KK.out.turn (gadd_side KK.out.one.wh ha.out hs (by decide))); obtain ⟨f0, f1, f2, f3, f4, f5, f6, f7, f8⟩ := gnine_of (x := ⟨0, xid, xacc, xsd, xpr, xqt, xsq, xn, xq⟩) (gturn_cl HCl.out HNf.out (gadd_side KK.out.one.wh ha.out hs (by decide))); dsimp only at f0 f1 f2 f3 f4 f5 f6 f7 f8))
              exact ⟨⟨i + 1, t1, t2, rfl, Hi.out, HF5.out⟩, less_left Hi.out⟩
          · go_wp2_with (first | ((with_reducible refine (HGt.out _ HW.out.one.wh).mono ?_); rintro e w1 ⟨r, rfl, hr⟩; rcases r with _ | ⟨zid, zacc, zsd, zpr, zqt, zsq⟩; dsimp only [optV, Option.isSome]; have KK := Lib.hid ((HW.out.below hr.out.2).below ((Below.refl _ _).alloc (Nat.le_refl _) (.cells (OC ⟨0, 0, 0, 0, 0, 0⟩) 24))); have hCl : Cl 55 (w1.alloc (.cells (OC ⟨0, 0, 0, 0, 0, 0⟩) 24)) wr.heap.size #[.int .i64 xk, .int .u64 xid, .int .i64 xacc, .int .i64 xsd, .int .i64 xpr, .int .i64 xqt, .int .u64 xsq, .int .u64 xn, .int .i64 xq] := hd_prev (Nat.lt_of_lt_of_le (Nat.lt_succ_self _) (by have := hr.out.2.size; rw [World.size_alloc] at this; exact this)) ((hr.out.2.block _ (by rw [World.size_alloc]; exact Nat.lt_succ_self _)).trans (hd_last rfl)); have HCl := Lib.hid hCl; have HNf : Hid (¬ gft pa ma s1 s2 wr.heap.size) := (fun h => Nat.lt_irrefl _ (gft.lt hd.out.2.one.wh _ h)); obtain ⟨f0, f1, f2, f3, f4, f5, f6, f7, f8⟩ := gnine_of (x := ⟨xk, xid, xacc, xsd, xpr, xqt, xsq, xn, xq⟩) hCl; dsimp only at f0 f1 f2 f3 f4 f5 f6 f7 f8; clear hCl HGt x0 x1 x2 x3 x4 x5 x6 x7 x8; rotate_left; dsimp only [optV, Option.isSome]; by_cases hy : zsd = 1; subst hy; have KK := Lib.hid ((HW.out.below hr.out.2).below ((Below.refl _ _).alloc (Nat.le_refl _) (.cells (OC ⟨zid, zacc, 1, zpr, zqt, zsq⟩) 24))); have hCl : Cl 55 (w1.alloc (.cells (OC ⟨zid, zacc, 1, zpr, zqt, zsq⟩) 24)) wr.heap.size #[.int .i64 xk, .int .u64 xid, .int .i64 xacc, .int .i64 xsd, .int .i64 xpr, .int .i64 xqt, .int .u64 xsq, .int .u64 xn, .int .i64 xq] := hd_prev (Nat.lt_of_lt_of_le (Nat.lt_succ_self _) (by have := hr.out.2.size; rw [World.size_alloc] at this; exact this)) ((hr.out.2.block _ (by rw [World.size_alloc]; exact Nat.lt_succ_self _)).trans (hd_last rfl)); have HCl := Lib.hid hCl; have HNf : Hid (¬ gft pa ma s1 s2 wr.heap.size) := (fun h => Nat.lt_irrefl _ (gft.lt hd.out.2.one.wh _ h)); obtain ⟨f0, f1, f2, f3, f4, f5, f6, f7, f8⟩ := gnine_of (x := ⟨xk, xid, xacc, xsd, xpr, xqt, xsq, xn, xq⟩) hCl; dsimp only at f0 f1 f2 f3 f4 f5 f6 f7 f8; clear hCl HGt x0 x1 x2 x3 x4 x5 x6 x7 x8; rotate_left; have KK := Lib.hid ((HW.out.below hr.out.2).below ((Below.refl _ _).alloc (Nat.le_refl _) (.cells (OC ⟨zid, zacc, zsd, zpr, zqt, zsq⟩) 24))); have hCl : Cl 55 (w1.alloc (.cells (OC ⟨zid, zacc, zsd, zpr, zqt, zsq⟩) 24)) wr.heap.size #[.int .i64 xk, .int .u64 xid, .int .i64 xacc, .int .i64 xsd, .int .i64 xpr, .int .i64 xqt, .int .u64 xsq, .int .u64 xn, .int .i64 xq] := hd_prev (Nat.lt_of_lt_of_le (Nat.lt_succ_self _) (by have := hr.out.2.size; rw [World.size_alloc] at this; exact this)) ((hr.out.2.block _ (by rw [World.size_alloc]; exact Nat.lt_succ_self _)).trans (hd_last rfl)); have HCl := Lib.hid hCl; have HNf : Hid (¬ gft pa ma s1 s2 wr.heap.size) := (fun h => Nat.lt_irrefl _ (gft.lt hd.out.2.one.wh _ h)); obtain ⟨f0, f1, f2, f3, f4, f5, f6, f7, f8⟩ := gnine_of (x := ⟨xk, xid, xacc, xsd, xpr, xqt, xsq, xn, xq⟩) hCl; dsimp only at f0 f1 f2 f3 f4 f5 f6 f7 f8; clear hCl HGt x0 x1 x2 x3 x4 x5 x6 x7 x8) | ((with_reducible refine (HCt.out _ KK.out.one.wh).mono ?_); rintro e w5 ⟨cc, t1, t2, rfl, ha⟩; have HF5 := Lib.hid (KK.out.turn (gcut_side KK.out.one.wh ha.out hr.out.1 hy (by decide)))))
            all_goals (first | exact ⟨⟨i + 1, t1, t2, rfl, Hi.out, HF5.out⟩, less_left Hi.out⟩ | exact ⟨⟨i + 1, s1, s2, rfl, Hi.out, KK.out⟩, less_left Hi.out⟩)
        · obtain rfl : i = len1 := by have := hd.out.1; omega
          have hiI : ¬ (i : Int) < (i : Int) := by omega
          have HKp := Lib.hid hd.out.2
          have HPr2 : Hid (∀ W p (m : Nat × Nat) s1 s2, gWhole W p m s1 s2 → gRs s1 s2 1 = R → Calls Try.prog 14 #[.pointer (some ⟨p, 0, none⟩), .int .i64 1] W fun e w' => ∃ v, e = .returned v ∧ Hid (w'.ownsRow W.heap.size 2 1 v n (l.map (fun p => Value.int .i64 p)) ∧ Below W.heap.size W w')) := fun W p m s1 s2 H hR => by
            have := gprices_in (sd := 1) H hR (by decide)
            rwa [HRn.out.1, HRn.out.2] at this
          have HPc : Hid (∀ W v' base, W.ownsRow base 2 1 v' n (l.map (fun p => Value.int .i64 p)) → W.ownsRow 0 2 1 v n (l.map (fun p => Value.int .i64 p)) → Calls Try.prog 21 #[v', v] W fun e w' => e = .returned (.bool true) ∧ Hid (Below W.heap.size W w')) := fun W v' base h k => gprices_c v' v n l base 0 W h k (by have := HRl.out; omega)
          clear hd hi
          go_wp2_with (first | ((with_reducible refine (HBe.out _ _ _ _ _ HKp.out.one.wh HKp.out.rs).mono ?_); rintro e w5 ⟨rfl, hb5⟩; have HK5 := Lib.hid ((HKp.out.below hb5.out).below ((Below.refl _ _).alloc (Nat.le_refl _) (.cells (OC z) 24))); have hC5 : Hid (Cl 24 (w5.alloc (.cells (OC z) 24)) w5.heap.size (OC z)) := hd_last rfl; clear HBe) | ((with_reducible refine (HPr2.out _ _ _ _ _ HK5.out.one.wh HK5.out.rs).mono ?_); rintro e w6 ⟨v', rfl, hv'⟩; have HK6 := Lib.hid (HK5.out.below hv'.out.2); have hC6 : Hid (Cl 24 w6 w5.heap.size (OC z)) := (hv'.out.2.block _ (blk_lt hC5.out)).trans hC5.out; clear HPr2) | ((with_reducible refine (HPc.out _ _ _ hv'.out.1 HK6.out.was).mono ?_); rintro e w7 ⟨rfl, hb7⟩; have HK7 := Lib.hid (HK6.out.below hb7.out); have hC7 : Cl 24 w7 w5.heap.size (OC z) := (hb7.out.block _ (blk_lt hC6.out)).trans hC6.out; obtain ⟨y0, y1, y2, y3, y4, y5⟩ := six_of hC7; obtain ⟨z0, z1, z2, z3, z4, z5⟩ := six_of HK7.out.bx; clear HPc hC7) | ((with_reducible refine (HL.out _).mono ?_); rintro e w8 ⟨rfl, hb8⟩))
          go_ret
          exact ⟨rfl, HK7.out.one.be.trans (hb8.mono HK7.out.one.be.size)⟩
set_option maxHeartbeats 8000000 in
set_option maxRecDepth 100000 in
theorem gsides_w2 (a0 : Option Addr) (len0 cap0 : Nat) (its : List Od) (a1 : Option Addr) (len1 cap1 : Nat) (ops : List Op) (w : World) (hO : Ods w a0 len0 its) (hP : Ops w a1 len1 ops) (h64 : len0 ≤ 64) (h60 : len1 ≤ 60) :
    Calls Try.prog 5 #[.slice a0 len0 cap0, .slice a1 len1 cap1, .int .i64 2] w fun e w' => e = .returned (.bool true) ∧ Below w.heap.size w w' := by
  have mixed : Try.prog.follows .mixedOrders = true := by kernel_rfl
  have HL := Lib.hid lives14_c
  have hz : ¬ (64 : Int) < (len0 : Int) := by omega
  have hz1 : ¬ (60 : Int) < (len1 : Int) := by omega
  have HN0 : Hid (its.length = len0) := hO.1
  have HN1 : Hid (ops.length = len1) := hP.1
  have HO := Lib.hid hO
  have HP := Lib.hid hP
  have H64 := Lib.hid h64
  have H60 := Lib.hid h60
  have HN := Lib.hid (gNew_is w)
  clear hO hP h64 h60
  go_enter Try.func5, Try.ntmps5
  go_wp2_with ((with_reducible refine HN.out.mono ?_); rintro e w1 ⟨pa, ma, z1, z2, rfl, hn1⟩; clear HN)
  have I0 := Lib.hid (gone_new hn1.out)
  clear hn1
  go_loopw [39] (fun s wr => ∃ (k : Nat) (s1 s2 : Gd), s = .int .i64 (k : Int) ∧ Hid (k ≤ len0 ∧ gOne w wr pa ma s1 s2)) (fun s _ => match s with | .int _ z => len0 - z.toNat | _ => 0)
  case atStart => exact ⟨0, z1, z2, rfl, Nat.zero_le _, I0.out⟩
  case round =>
    clear I0
    obtain ⟨k, s1, s2, rfl, hd⟩ := hrel
    by_cases hk : k < len0
    · have hkI : (k : Int) < (len0 : Int) := by omega
      have h1 := (HO.out.below hd.out.2.be).2.2.2
      rcases h1 with h1 | ⟨b, off, rfl, _, hc⟩
      · omega
      have hx := hc k hk
      clear hc
      have HA : Hid (∀ W, gWhole W pa ma s1 s2 → Calls Try.prog 10 #[.pointer (some ⟨pa, 0, none⟩), .agg #[.int .u64 (k : Int), .int .i64 (its[k]!).acc, .int .i64 (its[k]!).side, .int .i64 (its[k]!).price, .int .i64 (its[k]!).qty, .int .u64 (its[k]!).seq]] W fun e w' => ∃ c s1' s2', e = .returned (.int .i64 c) ∧ Hid (gAddIs W w' pa ma s1 s2 s1' s2' (oN its k) c)) := fun W h => gAdd_c pa ma s1 s2 (oN its k) W h (oN_ok (w := W) HO.out.2.2.1 (by rw [HN0.out]; exact hk) (by rw [HN0.out]; exact H64.out))
      obtain ⟨x, ex⟩ : ∃ x, its[k]! = x := ⟨_, rfl⟩
      rw [ex] at hx HA
      obtain ⟨x0, x1, x2, x3, x4, x5⟩ := hx
      have Hk := Lib.hid hk
      clear hk
      have HW := Lib.hid (hd.out.2.below ((Below.refl _ _).alloc (Nat.le_refl _) (.cells (OC ⟨(k : Int), x.acc, x.side, x.price, x.qty, x.seq⟩) 24)))
      go_wp2_with ((with_reducible refine (HA.out _ HW.out.wh).mono ?_); rintro e w3 ⟨cc, t1, t2, rfl, ha⟩)
      have Hs := HW.out.turn (gadd_whole HW.out.wh ha.out)
      exact ⟨⟨k + 1, t1, t2, rfl, Hk.out, Hs⟩, less_left Hk.out⟩
    · obtain rfl : k = len0 := by have := hd.out.1; omega
      have hkI : ¬ (k : Int) < (k : Int) := by omega
      obtain ⟨R, hR⟩ : ∃ R, gRs s1 s2 2 = R := ⟨_, rfl⟩
      have HO1 := Lib.hid hd.out.2
      have HPr := Lib.hid (gprices_in (sd := 2) HO1.out.wh hR (by decide))
      have HRl : Hid (R.length ≤ 64) := by rw [← hR]; exact gside_len HO1.out.wh 2
      have HBe : Hid (∀ W p (m : Nat × Nat) s1 s2, gWhole W p m s1 s2 → gRs s1 s2 2 = R → Calls Try.prog 9 #[.pointer (some ⟨p, 0, none⟩), .int .i64 2] W fun e w' => e = .returned (.tuple #[optV (fstO R), .bool (fstO R).isSome]) ∧ Hid (Below W.heap.size W w')) := fun W p m s1 s2 H hR => by
        exact gbest_in H hR (by decide)
      obtain ⟨z, hz0, _⟩ := gopt_agg (fstO R)
      obtain ⟨bb, hbb⟩ : ∃ bb, (fstO R).isSome = bb := ⟨_, rfl⟩
      rw [hz0, hbb] at HBe
      have HRs := Lib.hid hR
      clear hz0 hbb hR hk hd
      go_wp2_with (first | ((with_reducible refine HPr.out.mono ?_); rintro e w2 ⟨v, rfl, hv⟩; clear HPr) | ((with_reducible refine (HBe.out _ _ _ _ _ (HO1.out.below hv.out.2).wh HRs.out).mono ?_); rintro e w3 ⟨rfl, hb3⟩))
      have HK0 : Hid (gKept w (w3.alloc (.cells (OC z) 24)) pa ma s1 s2 2 R v R.length (R.map (·.pr)) w3.heap.size z) := by
        have hl := fun {k} => gft.lt HO1.out.wh k
        refine gKept.mk (((HO1.out.below hv.out.2).below hb3.out).below ((Below.refl _ _).alloc (Nat.le_refl _) _)) HRs.out ((own_low (own_base hv.out.1 (Nat.zero_le _)) hb3.out).alloc _) (hd_last rfl) (fun h => ?_) (fun j hj h => ?_)
        · have := hl h
          have := hv.out.2.size
          have := hb3.out.size
          omega
        · have := hl h
          have := (hv.out.1.lt j hj).1
          omega
      obtain ⟨fb, hfb⟩ : ∃ fb, w3.heap.size = fb := ⟨_, rfl⟩
      obtain ⟨W3, hW3⟩ : ∃ W3, w3.alloc (.cells (OC z) 24) = W3 := ⟨_, rfl⟩
      obtain ⟨n, hn⟩ : ∃ n, R.length = n := ⟨_, rfl⟩
      obtain ⟨l, hl⟩ : ∃ l, R.map (·.pr) = l := ⟨_, rfl⟩
      rw [hfb, hW3, hn, hl] at HK0
      rw [hfb, hW3]
      have HRn := Lib.hid (And.intro hn hl)
      rw [hn] at HRl
      clear hfb hW3 hn hl hb3 hv HO1
      clear w2 w3
      go_loopw [62] (fun s wr => ∃ (i : Nat) (s1 s2 : Gd), s = .int .i64 (i : Int) ∧ Hid (i ≤ len1 ∧ gKept w wr pa ma s1 s2 2 R v n l fb z)) (fun s _ => match s with | .int _ z => len1 - z.toNat | _ => 0)
      case atStart => exact ⟨0, s1, s2, rfl, Nat.zero_le _, HK0.out⟩
      case round =>
        clear HK0 HRs
        clear s1 s2
        obtain ⟨i, s1, s2, rfl, hd⟩ := hrel
        by_cases hi : i < len1
        · have hiI : (i : Int) < (len1 : Int) := by omega
          have h1 := (HP.out.below hd.out.2.one.be).2.2.2
          rcases h1 with h1 | ⟨b, off, rfl, _, hc⟩
          · omega
          have hx := hc i hi
          have hok := HP.out.2.2.1 (ops[i]!) (by rw [getElem!_pos ops i (by rw [HN1.out]; exact hi)]; exact List.getElem_mem _)
          clear hc
          obtain ⟨⟨xk, xid, xacc, xsd, xpr, xqt, xsq, xn, xq⟩, ex⟩ : ∃ x, ops[i]! = x := ⟨_, rfl⟩
          rw [ex] at hx hok
          obtain ⟨x0, x1, x2, x3, x4, x5, x6, x7, x8⟩ := hx
          dsimp only at x0 x1 x2 x3 x4 x5 x6 x7 x8
          have Hi := Lib.hid hi
          have hoo : Od.ok w ⟨xid, xacc, xsd, xpr, xqt, xsq⟩ := ⟨hok.2.1, hok.2.2.1, hok.2.2.2.1, hok.2.2.2.2.1, hok.2.2.2.2.2.1, hok.2.2.2.2.2.2.1⟩
          have HAd : Hid (∀ W, gWhole W pa ma s1 s2 → Calls Try.prog 10 #[.pointer (some ⟨pa, 0, none⟩), .agg #[.int .u64 xid, .int .i64 xacc, .int .i64 xsd, .int .i64 xpr, .int .i64 xqt, .int .u64 xsq]] W fun e w' => ∃ c s1' s2', e = .returned (.int .i64 c) ∧ Hid (gAddIs W w' pa ma s1 s2 s1' s2' ⟨xid, xacc, xsd, xpr, xqt, xsq⟩ c)) := fun W h => gAdd_c pa ma s1 s2 ⟨xid, xacc, xsd, xpr, xqt, xsq⟩ W h hoo
          have HX := Lib.hid (WalkArith.wf_u64 hok.2.2.2.2.2.2.2.1)
          have HCt : Hid (∀ W, gWhole W pa ma s1 s2 → Calls Try.prog 11 #[.pointer (some ⟨pa, 0, none⟩), .int .u64 xn, .int .i64 xq] W fun e w' => ∃ c s1' s2', e = .returned (.int .i64 c) ∧ Hid (gCutIs W w' pa ma s1 s2 s1' s2' xn xq c)) := fun W h => gCut_c pa ma s1 s2 xn xq HX.out W h
          have HGt : Hid (∀ W, gWhole W pa ma s1 s2 → Calls Try.prog 7 #[.pointer (some ⟨pa, 0, none⟩), .int .u64 xn] W fun e w' => ∃ r, e = .returned (.tuple #[optV r, .bool r.isSome]) ∧ Hid (GetIs xn (bookL s1.rs s2.rs) r ∧ Below W.heap.size W w')) := fun W h => hGet pa ma s1 s2 xn HX.out W h
          have HW := Lib.hid (hd.out.2.below ((Below.refl _ _).alloc (Nat.le_refl _) (.cells #[.int .i64 xk, .int .u64 xid, .int .i64 xacc, .int .i64 xsd, .int .i64 xpr, .int .i64 xqt, .int .u64 xsq, .int .u64 xn, .int .i64 xq] 55)))
          clear hok hi hoo
          by_cases hk : xk = 0
          · subst hk
            by_cases hs : xsd = 2
            · subst hs
              go_wp2_with ((with_reducible refine (HGt.out _ HW.out.one.wh).mono ?_); rintro e w1 ⟨r, rfl, hr⟩; obtain ⟨z', hz', hzy⟩ := gopt_agg r; obtain ⟨b2, hb2⟩ : ∃ b2, r.isSome = b2 := ⟨_, rfl⟩; rw [hz', hb2]; have HZy := Lib.hid hzy; have HB2 := Lib.hid hb2; clear hz' hzy hb2; have KK := Lib.hid ((HW.out.below hr.out.2).below ((Below.refl _ _).alloc (Nat.le_refl _) (.cells (OC z') 24))); have hCl : Cl 55 (w1.alloc (.cells (OC z') 24)) wr.heap.size #[.int .i64 0, .int .u64 xid, .int .i64 xacc, .int .i64 2, .int .i64 xpr, .int .i64 xqt, .int .u64 xsq, .int .u64 xn, .int .i64 xq] := hd_prev (Nat.lt_of_lt_of_le (Nat.lt_succ_self _) (by have := hr.out.2.size; rw [World.size_alloc] at this; exact this)) ((hr.out.2.block _ (by rw [World.size_alloc]; exact Nat.lt_succ_self _)).trans (hd_last rfl)); have HCl := Lib.hid hCl; have HNf : Hid (¬ gft pa ma s1 s2 wr.heap.size) := (fun h => Nat.lt_irrefl _ (gft.lt hd.out.2.one.wh _ h)); obtain ⟨f0, f1, f2, f3, f4, f5, f6, f7, f8⟩ := gnine_of (x := ⟨0, xid, xacc, 2, xpr, xqt, xsq, xn, xq⟩) hCl; dsimp only at f0 f1 f2 f3 f4 f5 f6 f7 f8; clear hCl HGt x0 x1 x2 x3 x4 x5 x6 x7 x8)
              exact ⟨⟨i + 1, s1, s2, rfl, Hi.out, KK.out⟩, less_left Hi.out⟩
            · go_wp2_with (first | ((with_reducible refine (HGt.out _ HW.out.one.wh).mono ?_); rintro e w1 ⟨r, rfl, hr⟩; obtain ⟨z', hz', hzy⟩ := gopt_agg r; obtain ⟨b2, hb2⟩ : ∃ b2, r.isSome = b2 := ⟨_, rfl⟩; rw [hz', hb2]; have HZy := Lib.hid hzy; have HB2 := Lib.hid hb2; clear hz' hzy hb2; have KK := Lib.hid ((HW.out.below hr.out.2).below ((Below.refl _ _).alloc (Nat.le_refl _) (.cells (OC z') 24))); have hCl : Cl 55 (w1.alloc (.cells (OC z') 24)) wr.heap.size #[.int .i64 0, .int .u64 xid, .int .i64 xacc, .int .i64 xsd, .int .i64 xpr, .int .i64 xqt, .int .u64 xsq, .int .u64 xn, .int .i64 xq] := hd_prev (Nat.lt_of_lt_of_le (Nat.lt_succ_self _) (by have := hr.out.2.size; rw [World.size_alloc] at this; exact this)) ((hr.out.2.block _ (by rw [World.size_alloc]; exact Nat.lt_succ_self _)).trans (hd_last rfl)); have HCl := Lib.hid hCl; have HNf : Hid (¬ gft pa ma s1 s2 wr.heap.size) := (fun h => Nat.lt_irrefl _ (gft.lt hd.out.2.one.wh _ h)); obtain ⟨f0, f1, f2, f3, f4, f5, f6, f7, f8⟩ := gnine_of (x := ⟨0, xid, xacc, xsd, xpr, xqt, xsq, xn, xq⟩) hCl; dsimp only at f0 f1 f2 f3 f4 f5 f6 f7 f8; clear hCl HGt x0 x1 x2 x3 x4 x5 x6 x7 x8) | ((with_reducible refine (HAd.out _ KK.out.one.wh).mono ?_); rintro e w5 ⟨cc, t1, t2, rfl, ha⟩; have HF5 := Lib.hid (KK.out.turn (gadd_side KK.out.one.wh ha.out hs (by decide))); obtain ⟨f0, f1, f2, f3, f4, f5, f6, f7, f8⟩ := gnine_of (x := ⟨0, xid, xacc, xsd, xpr, xqt, xsq, xn, xq⟩) (gturn_cl HCl.out HNf.out (gadd_side KK.out.one.wh ha.out hs (by decide))); dsimp only at f0 f1 f2 f3 f4 f5 f6 f7 f8))
              exact ⟨⟨i + 1, t1, t2, rfl, Hi.out, HF5.out⟩, less_left Hi.out⟩
          · go_wp2_with (first | ((with_reducible refine (HGt.out _ HW.out.one.wh).mono ?_); rintro e w1 ⟨r, rfl, hr⟩; rcases r with _ | ⟨zid, zacc, zsd, zpr, zqt, zsq⟩; dsimp only [optV, Option.isSome]; have KK := Lib.hid ((HW.out.below hr.out.2).below ((Below.refl _ _).alloc (Nat.le_refl _) (.cells (OC ⟨0, 0, 0, 0, 0, 0⟩) 24))); have hCl : Cl 55 (w1.alloc (.cells (OC ⟨0, 0, 0, 0, 0, 0⟩) 24)) wr.heap.size #[.int .i64 xk, .int .u64 xid, .int .i64 xacc, .int .i64 xsd, .int .i64 xpr, .int .i64 xqt, .int .u64 xsq, .int .u64 xn, .int .i64 xq] := hd_prev (Nat.lt_of_lt_of_le (Nat.lt_succ_self _) (by have := hr.out.2.size; rw [World.size_alloc] at this; exact this)) ((hr.out.2.block _ (by rw [World.size_alloc]; exact Nat.lt_succ_self _)).trans (hd_last rfl)); have HCl := Lib.hid hCl; have HNf : Hid (¬ gft pa ma s1 s2 wr.heap.size) := (fun h => Nat.lt_irrefl _ (gft.lt hd.out.2.one.wh _ h)); obtain ⟨f0, f1, f2, f3, f4, f5, f6, f7, f8⟩ := gnine_of (x := ⟨xk, xid, xacc, xsd, xpr, xqt, xsq, xn, xq⟩) hCl; dsimp only at f0 f1 f2 f3 f4 f5 f6 f7 f8; clear hCl HGt x0 x1 x2 x3 x4 x5 x6 x7 x8; rotate_left; dsimp only [optV, Option.isSome]; by_cases hy : zsd = 2; subst hy; have KK := Lib.hid ((HW.out.below hr.out.2).below ((Below.refl _ _).alloc (Nat.le_refl _) (.cells (OC ⟨zid, zacc, 2, zpr, zqt, zsq⟩) 24))); have hCl : Cl 55 (w1.alloc (.cells (OC ⟨zid, zacc, 2, zpr, zqt, zsq⟩) 24)) wr.heap.size #[.int .i64 xk, .int .u64 xid, .int .i64 xacc, .int .i64 xsd, .int .i64 xpr, .int .i64 xqt, .int .u64 xsq, .int .u64 xn, .int .i64 xq] := hd_prev (Nat.lt_of_lt_of_le (Nat.lt_succ_self _) (by have := hr.out.2.size; rw [World.size_alloc] at this; exact this)) ((hr.out.2.block _ (by rw [World.size_alloc]; exact Nat.lt_succ_self _)).trans (hd_last rfl)); have HCl := Lib.hid hCl; have HNf : Hid (¬ gft pa ma s1 s2 wr.heap.size) := (fun h => Nat.lt_irrefl _ (gft.lt hd.out.2.one.wh _ h)); obtain ⟨f0, f1, f2, f3, f4, f5, f6, f7, f8⟩ := gnine_of (x := ⟨xk, xid, xacc, xsd, xpr, xqt, xsq, xn, xq⟩) hCl; dsimp only at f0 f1 f2 f3 f4 f5 f6 f7 f8; clear hCl HGt x0 x1 x2 x3 x4 x5 x6 x7 x8; rotate_left; have KK := Lib.hid ((HW.out.below hr.out.2).below ((Below.refl _ _).alloc (Nat.le_refl _) (.cells (OC ⟨zid, zacc, zsd, zpr, zqt, zsq⟩) 24))); have hCl : Cl 55 (w1.alloc (.cells (OC ⟨zid, zacc, zsd, zpr, zqt, zsq⟩) 24)) wr.heap.size #[.int .i64 xk, .int .u64 xid, .int .i64 xacc, .int .i64 xsd, .int .i64 xpr, .int .i64 xqt, .int .u64 xsq, .int .u64 xn, .int .i64 xq] := hd_prev (Nat.lt_of_lt_of_le (Nat.lt_succ_self _) (by have := hr.out.2.size; rw [World.size_alloc] at this; exact this)) ((hr.out.2.block _ (by rw [World.size_alloc]; exact Nat.lt_succ_self _)).trans (hd_last rfl)); have HCl := Lib.hid hCl; have HNf : Hid (¬ gft pa ma s1 s2 wr.heap.size) := (fun h => Nat.lt_irrefl _ (gft.lt hd.out.2.one.wh _ h)); obtain ⟨f0, f1, f2, f3, f4, f5, f6, f7, f8⟩ := gnine_of (x := ⟨xk, xid, xacc, xsd, xpr, xqt, xsq, xn, xq⟩) hCl; dsimp only at f0 f1 f2 f3 f4 f5 f6 f7 f8; clear hCl HGt x0 x1 x2 x3 x4 x5 x6 x7 x8) | ((with_reducible refine (HCt.out _ KK.out.one.wh).mono ?_); rintro e w5 ⟨cc, t1, t2, rfl, ha⟩; have HF5 := Lib.hid (KK.out.turn (gcut_side KK.out.one.wh ha.out hr.out.1 hy (by decide)))))
            all_goals (first | exact ⟨⟨i + 1, t1, t2, rfl, Hi.out, HF5.out⟩, less_left Hi.out⟩ | exact ⟨⟨i + 1, s1, s2, rfl, Hi.out, KK.out⟩, less_left Hi.out⟩)
        · obtain rfl : i = len1 := by have := hd.out.1; omega
          have hiI : ¬ (i : Int) < (i : Int) := by omega
          have HKp := Lib.hid hd.out.2
          have HPr2 : Hid (∀ W p (m : Nat × Nat) s1 s2, gWhole W p m s1 s2 → gRs s1 s2 2 = R → Calls Try.prog 14 #[.pointer (some ⟨p, 0, none⟩), .int .i64 2] W fun e w' => ∃ v, e = .returned v ∧ Hid (w'.ownsRow W.heap.size 2 1 v n (l.map (fun p => Value.int .i64 p)) ∧ Below W.heap.size W w')) := fun W p m s1 s2 H hR => by
            have := gprices_in (sd := 2) H hR (by decide)
            rwa [HRn.out.1, HRn.out.2] at this
          have HPc : Hid (∀ W v' base, W.ownsRow base 2 1 v' n (l.map (fun p => Value.int .i64 p)) → W.ownsRow 0 2 1 v n (l.map (fun p => Value.int .i64 p)) → Calls Try.prog 21 #[v', v] W fun e w' => e = .returned (.bool true) ∧ Hid (Below W.heap.size W w')) := fun W v' base h k => gprices_c v' v n l base 0 W h k (by have := HRl.out; omega)
          clear hd hi
          go_wp2_with (first | ((with_reducible refine (HBe.out _ _ _ _ _ HKp.out.one.wh HKp.out.rs).mono ?_); rintro e w5 ⟨rfl, hb5⟩; have HK5 := Lib.hid ((HKp.out.below hb5.out).below ((Below.refl _ _).alloc (Nat.le_refl _) (.cells (OC z) 24))); have hC5 : Hid (Cl 24 (w5.alloc (.cells (OC z) 24)) w5.heap.size (OC z)) := hd_last rfl; clear HBe) | ((with_reducible refine (HPr2.out _ _ _ _ _ HK5.out.one.wh HK5.out.rs).mono ?_); rintro e w6 ⟨v', rfl, hv'⟩; have HK6 := Lib.hid (HK5.out.below hv'.out.2); have hC6 : Hid (Cl 24 w6 w5.heap.size (OC z)) := (hv'.out.2.block _ (blk_lt hC5.out)).trans hC5.out; clear HPr2) | ((with_reducible refine (HPc.out _ _ _ hv'.out.1 HK6.out.was).mono ?_); rintro e w7 ⟨rfl, hb7⟩; have HK7 := Lib.hid (HK6.out.below hb7.out); have hC7 : Cl 24 w7 w5.heap.size (OC z) := (hb7.out.block _ (blk_lt hC6.out)).trans hC6.out; obtain ⟨y0, y1, y2, y3, y4, y5⟩ := six_of hC7; obtain ⟨z0, z1, z2, z3, z4, z5⟩ := six_of HK7.out.bx; clear HPc hC7) | ((with_reducible refine (HL.out _).mono ?_); rintro e w8 ⟨rfl, hb8⟩))
          go_ret
          exact ⟨rfl, HK7.out.one.be.trans (hb8.mono HK7.out.one.be.size)⟩
set_option maxHeartbeats 4000000 in
set_option maxRecDepth 100000 in
theorem gsides_l1 (a0 : Option Addr) (len0 cap0 : Nat) (a1 : Option Addr) (len1 cap1 : Nat) (a2 : Int) (w : World) (hz : (64 : Int) < (len0 : Int)) :
    Calls Try.prog 5 #[.slice a0 len0 cap0, .slice a1 len1 cap1, .int .i64 a2] w fun e w' => e = .returned (.bool true) ∧ Below w.heap.size w w' := by
  have mixed : Try.prog.follows .mixedOrders = true := by kernel_rfl
  have HL := Lib.hid lives14_c
  go_enter Try.func5, Try.ntmps5
  go_wp2_with ((with_reducible refine (HL.out _).mono ?_); rintro e w2 ⟨rfl, k2⟩; have G2 : Hid (Below w.heap.size w w2) := Lib.hid k2; clear k2)
  go_ret
  exact ⟨rfl, G2.out⟩
set_option maxHeartbeats 4000000 in
set_option maxRecDepth 100000 in
theorem gsides_l2 (a0 : Option Addr) (len0 cap0 : Nat) (a1 : Option Addr) (len1 cap1 : Nat) (a2 : Int) (w : World) (hz : ¬ (64 : Int) < (len0 : Int)) (hz1 : (60 : Int) < (len1 : Int)) :
    Calls Try.prog 5 #[.slice a0 len0 cap0, .slice a1 len1 cap1, .int .i64 a2] w fun e w' => e = .returned (.bool true) ∧ Below w.heap.size w w' := by
  have mixed : Try.prog.follows .mixedOrders = true := by kernel_rfl
  have HL := Lib.hid lives14_c
  go_enter Try.func5, Try.ntmps5
  go_wp2_with ((with_reducible refine (HL.out _).mono ?_); rintro e w2 ⟨rfl, k2⟩; have G2 : Hid (Below w.heap.size w w2) := Lib.hid k2; clear k2)
  go_ret
  exact ⟨rfl, G2.out⟩
set_option maxHeartbeats 4000000 in
set_option maxRecDepth 100000 in
theorem gsides_l3 (a0 : Option Addr) (len0 cap0 : Nat) (a1 : Option Addr) (len1 cap1 : Nat) (a2 : Int) (w : World) (hz : ¬ (64 : Int) < (len0 : Int)) (hz1 : ¬ (60 : Int) < (len1 : Int)) (h1 : ¬ a2 = 1) (h2 : ¬ a2 = 2) :
    Calls Try.prog 5 #[.slice a0 len0 cap0, .slice a1 len1 cap1, .int .i64 a2] w fun e w' => e = .returned (.bool true) ∧ Below w.heap.size w w' := by
  have mixed : Try.prog.follows .mixedOrders = true := by kernel_rfl
  have e1 : (a2 != 1) = true := by simp [h1]
  have e2 : (a2 != 2) = true := by simp [h2]
  have HL := Lib.hid lives14_c
  go_enter Try.func5, Try.ntmps5
  go_wp2_with ((with_reducible refine (HL.out _).mono ?_); rintro e w2 ⟨rfl, k2⟩; have G2 : Hid (Below w.heap.size w w2) := Lib.hid k2; clear k2)
  go_ret
  exact ⟨rfl, G2.out⟩
theorem gsides_w (a0 : Option Addr) (len0 cap0 : Nat) (its : List Od) (a1 : Option Addr) (len1 cap1 : Nat) (ops : List Op) (a2 : Int) (w : World) (hO : Ods w a0 len0 its) (hP : Ops w a1 len1 ops) :
    Calls Try.prog 5 #[.slice a0 len0 cap0, .slice a1 len1 cap1, .int .i64 a2] w fun e w' => e = .returned (.bool true) ∧ Below w.heap.size w w' := by
  by_cases h64 : len0 ≤ 64
  · by_cases h60 : len1 ≤ 60
    · by_cases h1 : a2 = 1
      · subst h1; exact gsides_w1 a0 len0 cap0 its a1 len1 cap1 ops w hO hP h64 h60
      by_cases h2 : a2 = 2
      · subst h2; exact gsides_w2 a0 len0 cap0 its a1 len1 cap1 ops w hO hP h64 h60
      exact gsides_l3 a0 len0 cap0 a1 len1 cap1 a2 w (by omega) (by omega) h1 h2
    · exact gsides_l2 a0 len0 cap0 a1 len1 cap1 a2 w (by omega) (by omega)
  · exact gsides_l1 a0 len0 cap0 a1 len1 cap1 a2 w (by omega)
end Go.Proofs.Ytgbmgdffgmablaa
