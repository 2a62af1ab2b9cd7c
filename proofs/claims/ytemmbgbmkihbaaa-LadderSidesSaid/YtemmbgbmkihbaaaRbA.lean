/- The reference's book: Sorted in a row of its own; At. (By mkrb.py.) -/
import Derived.Test.YtemmbgbmkihbaaaLdR
namespace Go.Proofs.Ytemmbgbmkihbaaa
open Go.RowKit Go.Sort Go.Lib Go.Shelf

set_option maxHeartbeats 4000000 in
set_option maxRecDepth 1000000 in
theorem rSortedO_c (A : Option Addr) (n c : Nat) (L : List Od) (w : World) (H : Ods w A n L) (hn : n ≤ 1000) :
    Calls Try.prog 29 #[.slice A n c] w fun e w' => ∃ A c, e = .returned (.slice A L.length c) ∧ Hid (Below w.heap.size w w' ∧ w'.ownsRow w.heap.size 37 6 (.slice A L.length c) L.length (ol (sortO L))) := by
  obtain ⟨i0, hi0, hz0, hz1, hz2⟩ := info_parts info_ro
  have HO : Aside (Ods w A n L) := H
  have HLn := Lib.hid H.1
  clear H
  have hown0 : (w.alloc (Obj.cells #[] 37)).ownsRow w.heap.size 37 6 (.slice (some ⟨w.heap.size, 0, none⟩) 0 0) 0 [] :=
    ⟨rfl, .inr ⟨w.heap.size, 0, #[], rfl, Nat.le_refl _, heap_alloc_new w _, Nat.le_refl _, Nat.zero_le _, rfl, rfl⟩⟩
  have B0 : Hid (Below w.heap.size w (w.alloc (Obj.cells #[] 37))) := (Below.refl _ _).alloc (Nat.le_refl _) _
  have HS1 := Lib.hid (rSide_c A n c 1 L _ (HO.out.below B0.out) hn)
  go_enter Try.func29, Try.ntmps29
  go_wp2_with ((with_reducible refine (HS1.out).mono ?_); rintro e w1 ⟨A1, n1, c1, rfl, HF1⟩)
  have HO1 : Aside (Ods w1 A1 n1 ((fz 1 L).map Prod.fst)) := by
    show Ods _ _ _ _
    rw [fz_fst]; exact HF1.out.2.1
  have hn1 : n1 ≤ n := by
    have h1 := HF1.out.2.1.1
    have h2 := fil_le 1 L
    have h3 := HLn.out
    omega
  have B1 : Hid (Below w.heap.size w w1) := B0.out.trans (HF1.out.1.mono B0.out.size)
  have hown1 := own_fr (S := fun _ => False) hown0 (Fr.of_below HF1.out.1) (fun _ _ h => h)
  refine (rSorted1_c A1 n1 c1 (fz 1 L) w1 HO1.out (by omega) HF1.out.2.2.1 (fz_sel (.inl rfl) L)).mono ?_
  rintro e w2 ⟨O1, p1, s1, A2, n2, c2, rfl, HF2⟩
  have hown2 := own_fr (S := fun _ => False) hown1 (Fr.of_below HF2.out.1) (fun _ _ h => h)
  have B2 : Hid (Below w.heap.size w w2) := B1.out.trans (HF2.out.1.mono B1.out.size)
  have HO2 : Aside (Ods w2 A2 n2 (O1.map Prod.fst)) := HF2.out.2.1
  have P1 : Hid (O1.Perm (fz 1 L) ∧ O1.Pairwise (fun x y => ltR ltO y x = false)) := ⟨p1, s1⟩
  have hc2 : CapOk A2 n2 c2 := HF2.out.2.2
  have hn2 : n2 ≤ n := by
    have h1 := HO2.out.1
    have h2 := p1.length_eq
    have h3 := fil_le 1 L
    rw [← fz_fst] at h3
    rw [List.length_map] at h1 h3
    have h4 := HLn.out
    omega
  clear p1 s1 HF1 HF2 HO1 hown0 hown1 B0 B1 HS1 hn1
  have hs2 := B2.out.size
  go_wp2_with (at_builtin; refine append_row rfl _ _ rfl w.heap.size _ _ _ rfl hown2 A2 n2 c2 _ rfl HO2.out hc2 (by omega) hs2 ?_)
  intro v1 w3 hown3 b3
  have B3 : Hid (Below w.heap.size w w3) := B2.out.trans b3
  have HS2 := Lib.hid (rSide_c A n c 2 L w3 (HO.out.below B3.out) hn)
  clear b3 hown2 HO2 hc2 B2 hs2
  go_wp2_with fail
  refine HS2.out.mono ?_
  rintro e w4 ⟨A3, n3, c3, rfl, HF3⟩
  have HO3 : Aside (Ods w4 A3 n3 ((fz 2 L).map Prod.fst)) := by
    show Ods _ _ _ _
    rw [fz_fst]; exact HF3.out.2.1
  have hn3 : n3 ≤ n := by
    have h1 := HF3.out.2.1.1
    have h2 := fil_le 2 L
    have h3 := HLn.out
    omega
  have B4 : Hid (Below w.heap.size w w4) := B3.out.trans (HF3.out.1.mono B3.out.size)
  have hown4 := own_fr (S := fun _ => False) hown3 (Fr.of_below HF3.out.1) (fun _ _ h => h)
  have HC2 := Lib.hid (rSorted1_c A3 n3 c3 (fz 2 L) w4 HO3.out (by omega) HF3.out.2.2.1 (fz_sel (.inr rfl) L))
  clear hown3 B3 HS2 HO3 HF3
  go_wp2_with fail
  refine HC2.out.mono ?_
  rintro e w5 ⟨O2, p2, s2, A4, n4, c4, rfl, HF4⟩
  have hown5 := own_fr (S := fun _ => False) hown4 (Fr.of_below HF4.out.1) (fun _ _ h => h)
  have B5 : Hid (Below w.heap.size w w5) := B4.out.trans (HF4.out.1.mono B4.out.size)
  have HO4 : Aside (Ods w5 A4 n4 (O2.map Prod.fst)) := HF4.out.2.1
  have P2 : Hid (O2.Perm (fz 2 L) ∧ O2.Pairwise (fun x y => ltR ltO y x = false)) := ⟨p2, s2⟩
  have hc4 : CapOk A4 n4 c4 := HF4.out.2.2
  have hn4 : n4 ≤ n := by
    have h1 := HO4.out.1
    have h2 := p2.length_eq
    have h3 := fil_le 2 L
    rw [← fz_fst] at h3
    rw [List.length_map] at h1 h3
    have h4 := HLn.out
    omega
  clear p2 s2 HF4 hown4 B4 HC2 hn3
  have hs5 := B5.out.size
  go_wp2_with (at_builtin; refine append_row rfl _ _ rfl w.heap.size _ _ _ rfl hown5 A4 n4 c4 _ rfl HO4.out hc4 (by omega) hs5 ?_)
  intro v2 w6 hown6 b6
  have B6 : Hid (Below w.heap.size w w6) := B5.out.trans b6
  have HS3 := Lib.hid (rSide_c A n c 0 L w6 (HO.out.below B6.out) hn)
  clear b6 hown5 HO4 hc4 B5 hs5
  go_wp2_with fail
  refine HS3.out.mono ?_
  rintro e w7 ⟨A5, n5, c5, rfl, HF5⟩
  have hown7 := own_fr (S := fun _ => False) hown6 (Fr.of_below HF5.out.1) (fun _ _ h => h)
  have B7 : Hid (Below w.heap.size w w7) := B6.out.trans (HF5.out.1.mono B6.out.size)
  have HO5 : Aside (Ods w7 A5 n5 (L.filter (ofO 0))) := HF5.out.2.1
  have hc5 : CapOk A5 n5 c5 := HF5.out.2.2
  have hn5 : n5 ≤ n := by
    have h1 := HO5.out.1
    have h2 := fil_le 0 L
    have h3 := HLn.out
    omega
  clear HF5 hown6 B6 HS3
  have hs7 := B7.out.size
  go_wp2_with (at_builtin; refine append_row rfl _ _ rfl w.heap.size _ _ _ rfl hown7 A5 n5 c5 _ rfl HO5.out hc5 (by omega) hs7 ?_)
  intro v3 w8 hown8 b8
  have B8 : Hid (Below w.heap.size w w8) := B7.out.trans b8
  have e8 : [] ++ ol (O1.map Prod.fst) ++ ol (O2.map Prod.fst) ++ ol (L.filter (ofO 0)) = ol (sortO L) := by
    rw [sortO_sides P1.out.1 P1.out.2 P2.out.1 P2.out.2, List.nil_append]
    unfold ol
    rw [List.flatMap_append, List.flatMap_append]
  have e9 : ol (O1.map Prod.fst) ++ ol (O2.map Prod.fst) ++ ol (L.filter (ofO 0)) = ol (sortO L) := by rw [← e8, List.nil_append]
  obtain ⟨m8, hm8⟩ : ∃ m, m = n2 + n4 + n5 := ⟨_, rfl⟩
  have hown9 : w8.ownsRow w.heap.size 37 6 v3 m8 (ol (sortO L)) := by
    rw [← e9, hm8]
    simpa using hown8
  have h8 : m8 ≤ 1000 := by
    have h1 := hown9.1
    rw [ol_len, sortO_len, HLn.out] at h1
    omega
  have hm9 : m8 = L.length := by
    have h1 := hown9.1
    rw [ol_len, sortO_len] at h1
    omega
  subst hm9
  obtain ⟨A8, c8, rfl, _⟩ := own_que2 hown9
  have HF : Hid (Below w.heap.size w w8 ∧ w8.ownsRow w.heap.size 37 6 (.slice A8 L.length c8) L.length (ol (sortO L))) := ⟨B8.out, hown9⟩
  clear hown9 hown8 b8 hown7 HO5 hc5 B7 B8 hm8 e8 e9 hs7 P1 P2
  go_wp2_with fail
  go_ret
  exact ⟨A8, c8, rfl, HF⟩

/-- The reference's book, as it lies. -/
def RB (W : World) (wb : Nat) (M : List Od) : Prop := ∃ A c, Cl 29 W wb #[.slice A M.length c] ∧ W.ownsRow 0 37 6 (.slice A M.length c) M.length (ol M)
/-- The place of an ID. -/
def idxN (id : Int) (M : List Od) : Nat := M.findIdx (fun x => x.id == id)
def atI (id : Int) (M : List Od) : Int := if idxN id M < M.length then (idxN id M : Int) else -1
theorem idx_at {id : Int} {M : List Od} {i : Nat} (hi : i < M.length) (hn : ∀ k, k < i → ¬ (M[k]!).id = id) (he : (M[i]!).id = id) : idxN id M = i := by
  unfold idxN
  rw [List.findIdx_eq hi]
  refine ⟨?_, fun j hj => ?_⟩
  · rw [getElem!_pos M i hi] at he
    simp [he]
  · have := hn j hj
    rw [getElem!_pos M j (by omega)] at this
    simp [this]
theorem idx_none {id : Int} {M : List Od} (hn : ∀ x ∈ M, ¬ x.id = id) : idxN id M = M.length := by
  unfold idxN
  rw [List.findIdx_eq_length]
  intro x hx
  simp [hn x hx]
theorem idx_get {id : Int} {M : List Od} (h : idxN id M < M.length) : (M[idxN id M]!).id = id := by
  rw [getElem!_pos M _ h]
  have := List.findIdx_getElem (w := h)
  exact eq_of_beq this
theorem idx_some {id : Int} {M : List Od} {x : Od} (hx : x ∈ M) (he : x.id = id) : idxN id M < M.length := by
  unfold idxN
  rw [List.findIdx_lt_length]
  exact ⟨x, hx, by simp [he]⟩
set_option maxHeartbeats 4000000 in
set_option maxRecDepth 100000 in
theorem rAt_c (wb : Nat) (id : Int) (M : List Od) (w : World) (H : RB w wb M) (hn : M.length ≤ 1000) :
    Calls Try.prog 45 #[.pointer (some ⟨wb, 0, none⟩), .int .u64 id] w fun e w' => e = .returned (.int .i64 (atI id M)) ∧ w' = w := by
  obtain ⟨A, c, hc, hr⟩ := H
  have c0 : w.cell? ⟨wb, 0, none⟩ = some (.slice A M.length c) := (hc.c 0).trans rfl
  obtain ⟨A', c', hv, hq⟩ := own_que hr
  injection hv with e1 _ _
  subst e1
  have HQ := Lib.hid hq.2
  obtain ⟨n, hl⟩ : ∃ n, M.length = n := ⟨_, rfl⟩
  obtain ⟨R, hR⟩ : ∃ R, atI id M = R := ⟨_, rfl⟩
  have HR := Lib.hid hR
  have HM := Lib.hid hl
  rw [hl] at c0 HQ hn
  rw [hR]
  clear hc hr hq hl hR
  go_enter Try.func45, Try.ntmps45
  go_wp2_with fail
  go_loopw [5] (fun s wr => ∃ i : Nat, s = .int .i64 (i : Int) ∧ wr = w ∧ Hid (i ≤ n ∧ ∀ k, k < i → ¬ (M[k]!).id = id)) (fun s _ => match s with | .int _ z => n - z.toNat | _ => 0)
  case atStart => exact ⟨0, rfl, rfl, Nat.zero_le _, fun k hk => absurd hk (Nat.not_lt_zero _)⟩
  case round =>
    obtain ⟨i, rfl, rfl, hd⟩ := hrel
    by_cases hi : i < n
    · obtain ⟨g, rfl, hg⟩ : ∃ g, A = some ⟨g, 0, none⟩ ∧ (M[i]!).at wr g (i * 6) := by
        rcases HQ.out with h0 | ⟨g, h1, _, h3⟩
        · omega
        · exact ⟨g, h1, h3 i hi⟩
      have hid0 := hg.1
      obtain ⟨y, hy⟩ : ∃ y, (M[i]!).id = y := ⟨_, rfl⟩
      rw [hy] at hid0
      have hiI : (i : Int) < (n : Int) := by omega
      have Hi := Lib.hid (And.intro hi hy)
      have hw9 : IntKind.i64.wrap ((i : Int) + 1) = ((i + 1 : Nat) : Int) := by rw [IntKind.wrap_i64]; omega
      clear hg hy hi
      by_cases he : y = id
      · have eb : (y == id) = true := by simp [he]
        have hz : R = (i : Int) := by
          have h1 := idx_at (id := id) (M := M) (i := i) (by rw [HM.out]; exact Hi.out.1) hd.out.2 (by rw [Hi.out.2]; exact he)
          rw [← HR.out]
          unfold atI
          rw [h1, if_pos (by rw [HM.out]; exact Hi.out.1)]
        subst hz
        clear he
        go_wp2_with fail
        go_ret
        exact ⟨rfl, rfl⟩
      · have eb : (y == id) = false := by simp [he]
        have He := Lib.hid he
        clear he
        go_wp2_with fail
        refine ⟨⟨i + 1, rfl, (by first | rfl | trivial), Hi.out.1, fun k hk => ?_⟩, less_left Hi.out.1⟩
        rcases Nat.lt_succ_iff_lt_or_eq.1 hk with h | h
        · exact hd.out.2 k h
        · rw [h, Hi.out.2]; exact He.out
    · have hiI : ¬ (i : Int) < (n : Int) := by omega
      have hz : R = -1 := by
        rw [← HR.out]
        unfold atI
        rw [if_neg]
        rw [idx_none (none_there HM.out hi hd.out.2)]
        omega
      subst hz
      clear hi
      go_wp2_with fail
      go_ret
      first | exact ⟨rfl, rfl⟩ | exact ⟨trivial, rfl⟩
end Go.Proofs.Ytemmbgbmkihbaaa
