/- The reference's Sorted. -/
import Derived.Test.YtgbmgdffgmablaaOrW
import Derived.Laws.OwnMore
import Derived.Laws.AppendOwnNone
namespace Go.Proofs.Ytgbmgdffgmablaa
open Go.RowKit Go.Sort Go.Lib Go.Shelf

theorem fil_le (s : Int) (L : List Od) : (L.filter (ofO s)).length ≤ L.length := List.length_filter_le _ _

theorem sortO_perm (L : List Od) : (sortO L).Perm L := by
  have h := (List.mergeSort_perm L.zipIdx (fun x y => !ltR ltO y x)).map Prod.fst
  rw [List.zipIdx_map_fst] at h
  exact h
theorem append_row {w : World} {ops : Array Oper} {rest : List Oper} {o : Oper} {a : Act} {Q : Exit → Act → World → Prop} (hgd : o.guard = none) (s x : Operand)
    (ho : o.op = .call { callee := .builtin .append, args := #[s, x], argTypes := #[46, 46] })
    (base : Nat) (v : Value) (n : Nat) (xs : List Value) (hs : a.eval s = v) (hown : w.ownsRow base 50 6 v n xs)
    (A : Option Addr) (m c : Nat) (L : List Od) (hx : a.eval x = .slice A m c) (HO : Ods w A m L) (hc : CapOk A m c) (h63 : n + m ≤ 3000) (hbase : base ≤ w.heap.size)
    (h : ∀ v' w', w'.ownsRow base 50 6 v' (n + m) (xs ++ ol L) → Below base w w' → wpList Try.prog ops Q rest (a.put o.dst v') w') : wpList Try.prog ops Q (o :: rest) a w := by
  obtain ⟨i0, hi0, hz0, hz1, hz2⟩ := info_parts info_ro
  have hl := HO.1
  have hlen : (ol L).length = m * 6 := by rw [ol_len, hl]
  cases A with
  | none =>
    obtain rfl : c = 0 := hc.2 rfl
    obtain rfl : m = 0 := by have := hc.1; omega
    have e : L = [] := List.length_eq_zero_iff.1 hl
    refine wpList_append_own_none hgd s x _ ho base _ i0 6 Try.underlying46 hi0 v n xs hs hown hx (h v w ?_ (Below.refl _ _ |>.mono hbase))
    rw [e]
    simpa [ol] using hown
  | some ad =>
    refine wpList_append_own _ hgd s x _ ho base _ i0 (.agg (OC ⟨0, 0, 0, 0, 0, 0⟩)) 6 48 Try.underlying46 hi0 hz0 hz1 hz2 rfl (by decide) v n xs hs hown ad m c (ol L) hx hlen ?_ (ol_one _) (by unfold maxLen; omega) (by omega) hbase (fun v' w' h1 h2 _ => h v' w' h1 (Below.grown ((Below.refl _ _).mono hbase) h2 hbase (fun k hk => (hown.lt k hk).1)))
    rcases HO.2.2.2 with h0 | ⟨b, off, e, _, _⟩
    · intro j u hu
      have := (List.getElem?_eq_some_iff.1 hu).1
      omega
    · injection e with e
      subst e
      have := Ods.part (i := 0) (m := m) HO (by omega)
      rw [List.drop_zero, List.take_of_length_le (by omega)] at this
      simpa using this

set_option maxHeartbeats 4000000 in
set_option maxRecDepth 1000000 in
theorem rSorted_c (A : Option Addr) (n c : Nat) (L : List Od) (w : World) (H : Ods w A n L) (hn : n ≤ 1000) :
    Calls Try.prog 40 #[.slice A n c] w (RowIs w (sortO L)) := by
  obtain ⟨i0, hi0, hz0, hz1, hz2⟩ := info_parts info_ro
  have HO : Aside (Ods w A n L) := H
  have HLn := Lib.hid H.1
  clear H
  have hown0 : (w.alloc (Obj.cells #[] 50)).ownsRow w.heap.size 50 6 (.slice (some ⟨w.heap.size, 0, none⟩) 0 0) 0 [] :=
    ⟨rfl, .inr ⟨w.heap.size, 0, #[], rfl, Nat.le_refl _, heap_alloc_new w _, Nat.le_refl _, Nat.zero_le _, rfl, rfl⟩⟩
  have B0 : Hid (Below w.heap.size w (w.alloc (Obj.cells #[] 50))) := (Below.refl _ _).alloc (Nat.le_refl _) _
  have HS1 := Lib.hid (rSide_c A n c 1 L _ (HO.out.below B0.out) hn)
  go_enter Try.func40, Try.ntmps40
  go_wp2_with ((with_reducible refine (HS1.out).mono ?_); rintro e w1 ⟨A1, n1, c1, rfl, HF1⟩)
  have HO1 : Aside (Ods w1 A1 n1 ((fz 1 L).map Prod.fst)) := by
    show Ods _ _ _ _
    rw [fz_fst]; exact HF1.out.2.1
  have hn1 : n1 ≤ n := by
    have h1 := HF1.out.2.1.1
    have h2 := fil_le 1 L
    have h3 := HLn.out
    omega
  have B1 : Hid (Below w.heap.size w w1) := B0.out.trans (HF1.out.1.mono B0.out.size)
  have hown1 := own_fr (S := fun _ => False) hown0 (Fr.of_below HF1.out.1) (fun _ _ h => h)
  refine (rSorted1_c A1 n1 c1 (fz 1 L) w1 HO1.out (by omega) HF1.out.2.2.1 (fz_sel (.inl rfl) L)).mono ?_
  rintro e w2 ⟨O1, p1, s1, A2, n2, c2, rfl, HF2⟩
  have hown2 := own_fr (S := fun _ => False) hown1 (Fr.of_below HF2.out.1) (fun _ _ h => h)
  have B2 : Hid (Below w.heap.size w w2) := B1.out.trans (HF2.out.1.mono B1.out.size)
  have HO2 : Aside (Ods w2 A2 n2 (O1.map Prod.fst)) := HF2.out.2.1
  have P1 : Hid (O1.Perm (fz 1 L) ∧ O1.Pairwise (fun x y => ltR ltO y x = false)) := ⟨p1, s1⟩
  have hc2 : CapOk A2 n2 c2 := HF2.out.2.2
  have hn2 : n2 ≤ n := by
    have h1 := HO2.out.1
    have h2 := p1.length_eq
    have h3 := fil_le 1 L
    rw [← fz_fst] at h3
    rw [List.length_map] at h1 h3
    have h4 := HLn.out
    omega
  clear p1 s1 HF1 HF2 HO1 hown0 hown1 B0 B1 HS1 hn1
  have hs2 := B2.out.size
  go_wp2_with (at_builtin; refine append_row rfl _ _ rfl w.heap.size _ _ _ rfl hown2 A2 n2 c2 _ rfl HO2.out hc2 (by omega) hs2 ?_)
  intro v1 w3 hown3 b3
  have B3 : Hid (Below w.heap.size w w3) := B2.out.trans b3
  have HS2 := Lib.hid (rSide_c A n c 2 L w3 (HO.out.below B3.out) hn)
  clear b3 hown2 HO2 hc2 B2 hs2
  go_wp2_with fail
  refine HS2.out.mono ?_
  rintro e w4 ⟨A3, n3, c3, rfl, HF3⟩
  have HO3 : Aside (Ods w4 A3 n3 ((fz 2 L).map Prod.fst)) := by
    show Ods _ _ _ _
    rw [fz_fst]; exact HF3.out.2.1
  have hn3 : n3 ≤ n := by
    have h1 := HF3.out.2.1.1
    have h2 := fil_le 2 L
    have h3 := HLn.out
    omega
  have B4 : Hid (Below w.heap.size w w4) := B3.out.trans (HF3.out.1.mono B3.out.size)
  have hown4 := own_fr (S := fun _ => False) hown3 (Fr.of_below HF3.out.1) (fun _ _ h => h)
  have HC2 := Lib.hid (rSorted1_c A3 n3 c3 (fz 2 L) w4 HO3.out (by omega) HF3.out.2.2.1 (fz_sel (.inr rfl) L))
  clear hown3 B3 HS2 HO3 HF3
  go_wp2_with fail
  refine HC2.out.mono ?_
  rintro e w5 ⟨O2, p2, s2, A4, n4, c4, rfl, HF4⟩
  have hown5 := own_fr (S := fun _ => False) hown4 (Fr.of_below HF4.out.1) (fun _ _ h => h)
  have B5 : Hid (Below w.heap.size w w5) := B4.out.trans (HF4.out.1.mono B4.out.size)
  have HO4 : Aside (Ods w5 A4 n4 (O2.map Prod.fst)) := HF4.out.2.1
  have P2 : Hid (O2.Perm (fz 2 L) ∧ O2.Pairwise (fun x y => ltR ltO y x = false)) := ⟨p2, s2⟩
  have hc4 : CapOk A4 n4 c4 := HF4.out.2.2
  have hn4 : n4 ≤ n := by
    have h1 := HO4.out.1
    have h2 := p2.length_eq
    have h3 := fil_le 2 L
    rw [← fz_fst] at h3
    rw [List.length_map] at h1 h3
    have h4 := HLn.out
    omega
  clear p2 s2 HF4 hown4 B4 HC2 hn3
  have hs5 := B5.out.size
  go_wp2_with (at_builtin; refine append_row rfl _ _ rfl w.heap.size _ _ _ rfl hown5 A4 n4 c4 _ rfl HO4.out hc4 (by omega) hs5 ?_)
  intro v2 w6 hown6 b6
  have B6 : Hid (Below w.heap.size w w6) := B5.out.trans b6
  have HS3 := Lib.hid (rSide_c A n c 0 L w6 (HO.out.below B6.out) hn)
  clear b6 hown5 HO4 hc4 B5 hs5
  go_wp2_with fail
  refine HS3.out.mono ?_
  rintro e w7 ⟨A5, n5, c5, rfl, HF5⟩
  have hown7 := own_fr (S := fun _ => False) hown6 (Fr.of_below HF5.out.1) (fun _ _ h => h)
  have B7 : Hid (Below w.heap.size w w7) := B6.out.trans (HF5.out.1.mono B6.out.size)
  have HO5 : Aside (Ods w7 A5 n5 (L.filter (ofO 0))) := HF5.out.2.1
  have hc5 : CapOk A5 n5 c5 := HF5.out.2.2
  have hn5 : n5 ≤ n := by
    have h1 := HO5.out.1
    have h2 := fil_le 0 L
    have h3 := HLn.out
    omega
  clear HF5 hown6 B6 HS3
  have hs7 := B7.out.size
  go_wp2_with (at_builtin; refine append_row rfl _ _ rfl w.heap.size _ _ _ rfl hown7 A5 n5 c5 _ rfl HO5.out hc5 (by omega) hs7 ?_)
  intro v3 w8 hown8 b8
  have B8 : Hid (Below w.heap.size w w8) := B7.out.trans b8
  have e8 : [] ++ ol (O1.map Prod.fst) ++ ol (O2.map Prod.fst) ++ ol (L.filter (ofO 0)) = ol (sortO L) := by
    rw [sortO_sides P1.out.1 P1.out.2 P2.out.1 P2.out.2, List.nil_append]
    unfold ol
    rw [List.flatMap_append, List.flatMap_append]
  have e9 : ol (O1.map Prod.fst) ++ ol (O2.map Prod.fst) ++ ol (L.filter (ofO 0)) = ol (sortO L) := by rw [← e8, List.nil_append]
  obtain ⟨m8, hm8⟩ : ∃ m, m = n2 + n4 + n5 := ⟨_, rfl⟩
  have hown9 : w8.ownsRow w.heap.size 50 6 v3 m8 (ol (sortO L)) := by
    rw [← e9, hm8]
    simpa using hown8
  have h8 : m8 ≤ 1000 := by
    have h1 := hown9.1
    rw [ol_len, sortO_len, HLn.out] at h1
    omega
  obtain ⟨A8, c8, rfl, hc8, ht8⟩ := own_ods hown9 h8 (fun x hx => (HO.out.below B8.out).2.2.1 x ((sortO_perm L).mem_iff.1 hx))
  have HF : Hid (Below w.heap.size w w8 ∧ Ods w8 A8 m8 (sortO L) ∧ CapOk A8 m8 c8) := ⟨B8.out, ht8, hc8⟩
  clear hown9 hown8 b8 hown7 HO5 hc5 B7 B8 ht8 hm8 e8 e9 hs7 P1 P2
  go_wp2_with fail
  go_ret
  exact ⟨A8, m8, c8, rfl, HF.out⟩
end Go.Proofs.Ytgbmgdffgmablaa
