/- codec: a text is read, in one word; bytes that came in; what is read to its end, written again. -/
import Derived.Test.YtgbbckjbpgojaaaCodK
namespace Go.Proofs.Ytgbbckjbpgojaaa
open Go.RowKit

/-- A slice of bytes that came in. -/
theorem slB_of_row {w : World} {a : Option Addr} {len cap : Nat} {zs : List Int} (h : (a = none ∧ len = 0 ∧ cap = 0 ∧ zs = []) ∨
    ∃ x, a = some x ∧ len ≤ cap ∧ cap ≤ maxLen ∧ zs.length = cap ∧ (∀ i, i < zs.length → w.cell? (x.add i) = some (.int .u8 (zs.getD i 0))) ∧ ∀ n ∈ zs, (Lit.int .u8 n).wf = true) : ∃ l, SlB w a len l := by
  rcases h with ⟨rfl, rfl, _, _⟩ | ⟨x, rfl, hl, _, hz, hc, hwf⟩
  · exact ⟨[], rfl, .inl rfl⟩
  · by_cases h0 : len = 0
    · subst h0; exact ⟨[], rfl, .inl rfl⟩
    · obtain ⟨b, off, rfl, hc'⟩ := ints_at hc (by omega)
      refine ⟨(zs.take len).map fun z => UInt8.ofNat z.toNat, by simp; omega, .inr ⟨b, off, rfl, ?_, fun i hi => ?_⟩⟩
      · exact World.block_lt_of_cell? w ⟨b, off + 0, none⟩ (hc' 0 (by omega))
      · rw [hc' i (by omega)]
        have hmem : zs.getD i 0 ∈ zs := by
          rw [List.getD_eq_getElem?_getD, List.getElem?_eq_getElem (by omega)]; exact List.getElem_mem _
        have hb := bounds_u8 (hwf _ hmem)
        have e : ((zs.take len).map fun z => UInt8.ofNat z.toNat).getD i 0 = UInt8.ofNat (zs.getD i 0).toNat := by
          simp only [List.getD_eq_getElem?_getD, List.getElem?_map, List.getElem?_take, if_pos hi]
          rw [List.getElem?_eq_getElem (show i < zs.length by omega)]
          rfl
        rw [e]
        unfold byt
        rw [ofNat_toNat (by omega)]
        congr 2
        omega

/-- Once bad, bad. -/
theorem rdN_bad (most : Nat) : rdN [] true most = (0, [], true) := rfl
theorem rdT_bad (most : Int) : rdT [] true most = ([], [], true) := by
  unfold rdT
  split
  · rfl
  · rw [rdN_bad]; rfl
theorem rdN_cases {l : List UInt8} {bd : Bool} {most n : Nat} {t : List UInt8} {b : Bool} (h : rdN l bd most = (n, t, b)) : (t = [] ∧ b = true) ∨ (l = natB n ++ t ∧ b = bd ∧ n ≤ most) := by
  unfold rdN at h
  cases e : readNat l most with
  | none => rw [e] at h; injection h with h1 h2; injection h2 with h2 h3; exact .inl ⟨h2.symm, h3.symm⟩
  | some p =>
    obtain ⟨m, u⟩ := p
    rw [e] at h; injection h with h1 h2; injection h2 with h2 h3
    subst h1; subst h2; subst h3
    exact .inr ⟨natB_readNat e, rfl, (readNat_bound e).1⟩
theorem rdT_cases {l : List UInt8} {bd : Bool} {most : Int} {s t : List UInt8} {b : Bool} (h : rdT l bd most = (s, t, b)) : (t = [] ∧ b = true) ∨ (l = natB s.length ++ s ++ t ∧ b = bd) := by
  unfold rdT at h
  split at h
  · injection h with h1 h2; injection h2 with h2 h3; exact .inl ⟨h2.symm, h3.symm⟩
  · obtain ⟨p, hp⟩ : ∃ p, p = rdN l bd most.toNat := ⟨_, rfl⟩
    obtain ⟨n, u, b'⟩ := p
    rw [← hp] at h
    simp only at h
    split at h
    · injection h with h1 h2; injection h2 with h2 h3; exact .inl ⟨h2.symm, h3.symm⟩
    · injection h with h1 h2; injection h2 with h2 h3
      subst h1; subst h2; subst h3
      rcases rdN_cases hp.symm with ⟨h1, h2⟩ | ⟨h1, h2, _⟩
      · exact .inl ⟨by rw [h1]; simp, h2⟩
      · refine .inr ⟨?_, h2⟩
        have hlen : (u.take n).length = n := by rw [List.length_take]; omega
        rw [hlen, List.append_assoc, List.take_append_drop]; exact h1

/-- What is read to its end, written again. -/
theorem once_eq {l t1 t2 t3 t4 s : List UInt8} {n m f : Nat} {b1 b2 b3 b4 : Bool} {most : Int} (h1 : rdN l false 18446744073709551615 = (n, t1, b1)) (h2 : rdN t1 b1 18446744073709551615 = (m, t2, b2)) (h3 : rdN t2 b2 1 = (f, t3, b3))
    (h4 : rdT t3 b3 most = (s, t4, b4)) (he : endE t4 b4 = 0) : natB n ++ natB (fz (zz m)) ++ natB (if ((f : Int) == 1) then 1 else 0) ++ natB s.length ++ s = l := by
  have hb : b4 = false ∧ t4 = [] := by
    unfold endE at he
    by_cases h : b4 = true ∨ t4 ≠ []
    · rw [if_pos h] at he; cases he
    · constructor
      · cases b4 <;> simp_all
      · cases t4 <;> simp_all
  obtain ⟨rfl, rfl⟩ := hb
  rcases rdT_cases h4 with ⟨_, h⟩ | ⟨e4, rfl⟩
  · cases h
  · rcases rdN_cases h3 with ⟨_, h⟩ | ⟨e3, rfl, hf⟩
    · cases h
    · rcases rdN_cases h2 with ⟨_, h⟩ | ⟨e2, rfl, _⟩
      · cases h
      · rcases rdN_cases h1 with ⟨_, h⟩ | ⟨e1, _, _⟩
        · cases h
        · have ef : (if ((f : Int) == 1) then 1 else 0) = f := by
            have : f = 0 ∨ f = 1 := by omega
            rcases this with rfl | rfl <;> rfl
          rw [fz_zz, ef, e1, e2, e3, e4]
          simp
end Go.Proofs.Ytgbbckjbpgojaaa
