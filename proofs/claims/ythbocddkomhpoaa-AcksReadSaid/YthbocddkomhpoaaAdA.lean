/- acks: a table's bytes, written and read, in plain words. -/
import Derived.Test.YthbocddkomhpoaaAcY
namespace Go.Proofs.Ythbocddkomhpoaa
open Go.RowKit Go.Lib

def setsA (z : Ta) (n : Nat) : List Nat := (List.range n).map fun i => z (i + 1)
def tabB (z : Ta) : List UInt8 := Co.natB (z 0) ++ Co.natsB (setsA z (z 0))
theorem natsB_app (a b : List Nat) : Co.natsB (a ++ b) = Co.natsB a ++ Co.natsB b := by unfold Co.natsB; rw [List.flatMap_append]
theorem natsB_one (x : Nat) : Co.natsB [x] = Co.natB x := by simp [Co.natsB]
theorem setsA_more (z : Ta) (n : Nat) : setsA z (n + 1) = setsA z n ++ [z (n + 1)] := by unfold setsA; rw [List.range_succ, List.map_append]; rfl
theorem rd_nat {n m : Nat} (t : List UInt8) (h : n < 2 ^ 64) (hm : n ≤ m) : Co.rdN (Co.natB n ++ t) false m = (n, t, false) := by
  unfold Co.rdN
  rw [Co.readNat_natB t h hm]
/-- The sets from the i-th on. -/
def restB (z : Ta) (n i : Nat) : List UInt8 := Co.natsB ((setsA z n).drop i)
theorem restB_step (z : Ta) {n i : Nat} (h : i < n) : restB z n i = Co.natB (z (i + 1)) ++ restB z n (i + 1) := by
  unfold restB
  have hl : i < (setsA z n).length := by simpa [setsA] using h
  rw [List.drop_eq_getElem_cons hl]
  unfold Co.natsB
  rw [List.flatMap_cons]
  congr 1
  congr 1
  simp [setsA]
def upTo (z : Ta) (i : Nat) : Ta := fun k => if k = 0 then z 0 else if k ≤ i then z k else 0
theorem rdI_back (z : Ta) (hz : Tb z) (r : List UInt8) : ∀ i, i ≤ z 0 → rdI (z 0) (restB z (z 0) 0 ++ r) false i = (upTo z i, restB z (z 0) i ++ r, false)
  | 0, _ => by
    simp only [rdI]
    have : newA (z 0) = upTo z 0 := by
      funext k
      unfold newA upTo updA zA
      by_cases hk : k = 0
      · rw [if_pos hk, if_pos hk]
      · rw [if_neg hk, if_neg hk, if_neg (by omega)]
    rw [this]
  | i + 1, h => by
    have ih := rdI_back z hz r i (by omega)
    have hlt := hz.lt (i + 1) (by omega)
    have hs : Co.rdN (restB z (z 0) i ++ r) false 4294967295 = (z (i + 1), restB z (z 0) (i + 1) ++ r, false) := by
      rw [restB_step z (show i < z 0 by omega), List.append_assoc]
      exact rd_nat _ (by omega) (by omega)
    simp only [rdI]
    rw [ih]
    simp only
    rw [hs]
    have : updA (upTo z i) (i + 1) (z (i + 1)) = upTo z (i + 1) := by
      funext k
      unfold updA upTo
      by_cases h1 : k = i + 1
      · rw [if_pos h1, if_neg (by omega), if_pos (by omega), h1]
      · rw [if_neg h1]
        by_cases h0 : k = 0
        · rw [if_pos h0, if_pos h0]
        · rw [if_neg h0, if_neg h0]
          by_cases h2 : k ≤ i
          · rw [if_pos h2, if_pos (by omega)]
          · rw [if_neg h2, if_neg (by omega)]
    rw [this]
theorem rdA_back (z : Ta) (hz : Tb z) (h0 : 1 ≤ z 0) (r : List UInt8) : rdA (tabB z ++ r) false = (true, z, r, false) := by
  have hn : Co.rdN (tabB z ++ r) false 7 = (z 0, restB z (z 0) 0 ++ r, false) := by
    unfold tabB restB
    rw [List.drop_zero, List.append_assoc]
    exact rd_nat _ (by have := hz.n; omega) hz.n
  have hi := rdI_back z hz r (z 0) (Nat.le_refl _)
  have he : restB z (z 0) (z 0) = [] := by
    unfold restB
    rw [List.drop_of_length_le (by simp [setsA])]
    rfl
  have hu : upTo z (z 0) = z := by
    funext k
    unfold upTo
    by_cases h1 : k = 0
    · rw [if_pos h1, h1]
    · rw [if_neg h1]
      by_cases h2 : k ≤ z 0
      · rw [if_pos h2]
      · rw [if_neg h2, hz.none k (by omega)]
  unfold rdA
  rw [hn]
  simp only
  rw [if_neg (by omega), hi]
  simp only
  rw [if_neg (by decide), he, hu, List.nil_append]
theorem rdI_fwd (n : Nat) (l : List UInt8) (b : Bool) : ∀ i, (rdI n l b i).2.2 = false → b = false ∧ l = Co.natsB (setsA (rdI n l b i).1 i) ++ (rdI n l b i).2.1
  | 0, h => by
    simp only [rdI] at h ⊢
    exact ⟨h, rfl⟩
  | i + 1, h => by
    have ih := rdI_fwd n l b i
    obtain ⟨x, t, b', hx⟩ : ∃ x t b', Co.rdN (rdI n l b i).2.1 (rdI n l b i).2.2 4294967295 = (x, t, b') := ⟨_, _, _, rfl⟩
    simp only [rdI] at h ⊢
    rw [hx] at h ⊢
    simp only at h ⊢
    rcases Co.rdN_cases hx with ⟨_, h1⟩ | ⟨h1, h2, _⟩
    · rw [h1] at h; cases h
    · obtain ⟨i1, i2⟩ := ih (h2.symm.trans h)
      refine ⟨i1, ?_⟩
      rw [setsA_more, natsB_app, natsB_one, updA_same]
      have e : setsA (updA (rdI n l b i).1 (i + 1) x) i = setsA (rdI n l b i).1 i := by
        unfold setsA
        apply List.map_congr_left
        intro j hj
        have := List.mem_range.1 hj
        exact updA_other _ _ _ _ (by omega)
      rw [e, List.append_assoc, ← h1]
      exact i2
theorem rdA_fwd (l : List UInt8) (z : Ta) (t : List UInt8) (b : Bool) (h : rdA l false = (true, z, t, b)) : Tb z ∧ 1 ≤ z 0 ∧ l = tabB z ++ t ∧ b = false := by
  obtain ⟨n, t1, b1, hn⟩ : ∃ n t1 b1, Co.rdN l false 7 = (n, t1, b1) := ⟨_, _, _, rfl⟩
  have hn7 : n ≤ 7 := by have := (Co.rdN_bound l false 7).1; rw [hn] at this; exact this
  unfold rdA at h
  rw [hn] at h
  simp only at h
  by_cases h0 : n = 0
  · rw [if_pos h0] at h; injection h with h1 _; cases h1
  rw [if_neg h0] at h
  have hf := rdI_fwd n t1 b1 n
  have ht := rdI_tb n t1 b1 hn7 n (Nat.le_refl _)
  have hz := rdI_n n t1 b1 n
  generalize rdI n t1 b1 n = s at *
  obtain ⟨z9, t9, b9⟩ := s
  simp only at *
  by_cases hb : b9 = true
  · rw [if_pos hb] at h; injection h with h1 _; cases h1
  rw [if_neg hb] at h
  injection h with _ h
  injection h with e2 h
  injection h with e3 e4
  subst e2; subst e3; subst e4
  obtain ⟨f1, f2⟩ := hf (by cases b9 <;> simp_all)
  refine ⟨ht, by omega, ?_, rfl⟩
  rcases Co.rdN_cases hn with ⟨_, h1⟩ | ⟨h1, _, _⟩
  · rw [f1] at h1; cases h1
  · unfold tabB
    rw [h1, hz, List.append_assoc, ← f2]
theorem setsA_len (z : Ta) (n : Nat) : (setsA z n).length = n := by simp [setsA]
theorem tabB_len (z : Ta) (hz : Tb z) : (tabB z).length ≤ 80 := by
  have h1 := Co.natB_len10 (n := z 0) (by have := hz.n; omega)
  have h2 := Co.natsB_len (xs := setsA z (z 0)) (fun x hx => by
    obtain ⟨i, _, rfl⟩ := List.mem_map.1 hx
    have := hz.lt (i + 1) (by omega)
    omega)
  rw [setsA_len] at h2
  have := hz.n
  unfold tabB
  rw [List.length_append]
  omega
theorem tabB_pos (z : Ta) : 0 < (tabB z).length := by
  have := Co.natB_pos (z 0)
  unfold tabB
  rw [List.length_append]
  omega
end Go.Proofs.Ythbocddkomhpoaa
