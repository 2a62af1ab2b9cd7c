/- Orders' bytes, in plain words: written, and read. -/
import Derived.Test.YtemmbgbmkihbaaaOrZ
import Derived.Test.YtemmbgbmkihbaaaCdB
namespace Go.Proofs.Ytemmbgbmkihbaaa
open Go.RowKit Go.Sort Go.Lib Go.Shelf

def big : Nat := 18446744073709551615
/-- An order's bytes. -/
def ordB (x : Od) : List UInt8 := Co.natB x.id.toNat ++ (Co.natB (Co.fz x.acc) ++ (Co.natB (Co.fz x.side) ++ (Co.natB (Co.fz x.price) ++ (Co.natB (Co.fz x.qty) ++ Co.natB x.seq.toNat))))
def ordsB (L : List Od) : List UInt8 := Co.natB L.length ++ L.flatMap ordB
/-- An order is read: what it is, what is left, whether it is bad then. -/
def rdO (l : List UInt8) (bd : Bool) : Od × List UInt8 × Bool :=
  let a := Co.rdN l bd big
  let b := Co.rdN a.2.1 a.2.2 big
  let c := Co.rdN b.2.1 b.2.2 big
  let d := Co.rdN c.2.1 c.2.2 big
  let e := Co.rdN d.2.1 d.2.2 big
  let f := Co.rdN e.2.1 e.2.2 big
  (⟨(a.1 : Int), Co.zz b.1, Co.zz c.1, Co.zz d.1, Co.zz e.1, (f.1 : Int)⟩, f.2)
/-- So many are read. -/
def rdOs : Nat → List UInt8 → Bool → List Od × List UInt8 × Bool
  | 0, l, bd => ([], l, bd)
  | k + 1, l, bd => ((rdOs k l bd).1 ++ [(rdO (rdOs k l bd).2.1 (rdOs k l bd).2.2).1], (rdO (rdOs k l bd).2.1 (rdOs k l bd).2.2).2)
/-- Whether orders are read, which ones, what is left, and whether it is bad then. -/
def rdAll (l : List UInt8) (bd : Bool) : Bool × List Od × List UInt8 × Bool :=
  let a := Co.rdN l bd 64
  let r := rdOs a.1 a.2.1 a.2.2
  if r.2.2 = true ∨ bookO r.1 = false then (false, [], [], true) else (true, r.1, r.2.1, false)

theorem rdOs_len (k : Nat) (l : List UInt8) (bd : Bool) : (rdOs k l bd).1.length = k := by
  induction k with
  | zero => rfl
  | succ k ih => show ((rdOs k l bd).1 ++ [_]).length = _; rw [List.length_append, ih]; rfl
theorem rdN_lt (l : List UInt8) (bd : Bool) (m : Nat) : (Co.rdN l bd m).1 < 2 ^ 64 := (Co.rdN_bound l bd m).2.1
theorem rdN_le (l : List UInt8) (bd : Bool) (m : Nat) : ((Co.rdN l bd m).1 : Int) ≤ 18446744073709551615 := by have := rdN_lt l bd m; omega
/-- What is read may be an order's numbers. -/
theorem rdO_ok (l : List UInt8) (bd : Bool) (w : World) : (rdO l bd).1.ok w :=
  ⟨⟨Int.natCast_nonneg _, rdN_le _ _ _⟩, Co.zz_bd (rdN_lt _ _ _), Co.zz_bd (rdN_lt _ _ _), Co.zz_bd (rdN_lt _ _ _), Co.zz_bd (rdN_lt _ _ _), ⟨Int.natCast_nonneg _, rdN_le _ _ _⟩⟩
theorem rdOs_ok (k : Nat) (l : List UInt8) (bd : Bool) (w : World) : ∀ x ∈ (rdOs k l bd).1, Od.ok w x := by
  induction k with
  | zero => intro x hx; cases hx
  | succ k ih =>
    intro x hx
    have hx' : x ∈ (rdOs k l bd).1 ++ [(rdO (rdOs k l bd).2.1 (rdOs k l bd).2.2).1] := hx
    rcases List.mem_append.1 hx' with h | h
    · exact ih x h
    · rw [List.mem_singleton.1 h]; exact rdO_ok _ _ _
theorem rd_nat {n m : Nat} (t : List UInt8) (h : n < 2 ^ 64) (hm : n ≤ m) : Co.rdN (Co.natB n ++ t) false m = (n, t, false) := by
  unfold Co.rdN
  rw [Co.readNat_natB t h hm]
theorem rd_over {n m : Nat} (t : List UInt8) (h : n < 2 ^ 64) (hm : m < n) : Co.rdN (Co.natB n ++ t) false m = (0, [], true) := by
  have h1 := Co.natAt_natB n 0 0 t (by omega) (by simp) (by omega) (by simpa using h)
  obtain ⟨q, hq⟩ : ∃ q, Co.rdN (Co.natB n ++ t) false m = q := ⟨_, rfl⟩
  obtain ⟨a, b, c⟩ := q
  have := Co.rdN_more hq h1 (by simpa using hm)
  rw [hq, this.1, this.2.1, this.2.2]
theorem rdO_back (x : Od) (w : World) (h : x.ok w) (t : List UInt8) : rdO (ordB x ++ t) false = (x, t, false) := by
  obtain ⟨h0, h1, h2, h3, h4, h5⟩ := h
  have f1 := Co.fz_lt h1.1 h1.2
  have f2 := Co.fz_lt h2.1 h2.2
  have f3 := Co.fz_lt h3.1 h3.2
  have f4 := Co.fz_lt h4.1 h4.2
  have e : ordB x ++ t = Co.natB x.id.toNat ++ (Co.natB (Co.fz x.acc) ++ (Co.natB (Co.fz x.side) ++ (Co.natB (Co.fz x.price) ++ (Co.natB (Co.fz x.qty) ++ (Co.natB x.seq.toNat ++ t))))) := by
    unfold ordB; simp only [List.append_assoc]
  rw [e]
  unfold rdO
  have hb : big = 18446744073709551615 := rfl
  simp only [rd_nat (n := x.id.toNat) (m := big) _ (by omega) (by omega), rd_nat (n := Co.fz x.acc) (m := big) _ (by omega) (by omega), rd_nat (n := Co.fz x.side) (m := big) _ (by omega) (by omega), rd_nat (n := Co.fz x.price) (m := big) _ (by omega) (by omega), rd_nat (n := Co.fz x.qty) (m := big) _ (by omega) (by omega), rd_nat (n := x.seq.toNat) (m := big) t (by omega) (by omega), Co.zz_fz]
  rw [Int.toNat_of_nonneg h0.1, Int.toNat_of_nonneg h5.1]
theorem rdOs_back (w : World) (L : List Od) (h : ∀ x ∈ L, Od.ok w x) (m : List UInt8) : ∀ k, k ≤ L.length → rdOs k (L.flatMap ordB ++ m) false = (L.take k, (L.drop k).flatMap ordB ++ m, false) := by
  intro k
  induction k with
  | zero => intro _; simp [rdOs]
  | succ k ih =>
    intro hk
    have hk' : k < L.length := by omega
    rw [rdOs, ih (by omega)]
    simp only
    rw [List.drop_eq_getElem_cons hk', List.flatMap_cons, List.append_assoc, rdO_back _ w (h _ (List.getElem_mem _)), List.take_succ_eq_append_getElem hk']
theorem rdAll_book (w : World) (L : List Od) (h : ∀ x ∈ L, Od.ok w x) (hB : bookO L = true) (m : List UInt8) : rdAll (ordsB L ++ m) false = (true, L, m, false) := by
  have h64 := ((book_iff L).1 hB).1
  unfold rdAll ordsB
  simp only [List.append_assoc]
  rw [rd_nat _ (by omega) (by omega)]
  simp only
  rw [rdOs_back w L h m L.length (Nat.le_refl _)]
  simp [hB]
theorem rdAll_none (w : World) (L : List Od) (h : ∀ x ∈ L, Od.ok w x) (hl : L.length ≤ 1000) (hB : bookO L = false) (m : List UInt8) : rdAll (ordsB L ++ m) false = (false, [], [], true) := by
  unfold rdAll ordsB
  simp only [List.append_assoc]
  by_cases h64 : L.length ≤ 64
  · rw [rd_nat _ (by omega) (by omega)]
    simp only
    rw [rdOs_back w L h m L.length (Nat.le_refl _)]
    simp [hB]
  · rw [rd_over _ (by omega) (by omega)]
    simp [rdOs]
theorem ordB_len {x : Od} {w : World} (h : x.ok w) : (ordB x).length ≤ 60 := by
  obtain ⟨h0, h1, h2, h3, h4, h5⟩ := h
  have a := Co.natB_len10 (n := x.id.toNat) (by omega)
  have b := Co.natB_len10 (n := Co.fz x.acc) (Co.fz_lt h1.1 h1.2)
  have c := Co.natB_len10 (n := Co.fz x.side) (Co.fz_lt h2.1 h2.2)
  have d := Co.natB_len10 (n := Co.fz x.price) (Co.fz_lt h3.1 h3.2)
  have e := Co.natB_len10 (n := Co.fz x.qty) (Co.fz_lt h4.1 h4.2)
  have f := Co.natB_len10 (n := x.seq.toNat) (by omega)
  unfold ordB
  simp only [List.length_append]
  omega
theorem flat_len {w : World} : ∀ (L : List Od), (∀ x ∈ L, Od.ok w x) → (L.flatMap ordB).length ≤ 60 * L.length
  | [], _ => by simp
  | x :: L, h => by
    have h1 := ordB_len (h x (by simp))
    have h2 := flat_len L (fun y hy => h y (by simp [hy]))
    rw [List.flatMap_cons, List.length_append, List.length_cons]
    omega
theorem take_len {w : World} {L : List Od} (h : ∀ x ∈ L, Od.ok w x) (k : Nat) : ((L.take k).flatMap ordB).length ≤ 60 * L.length := by
  have h1 := flat_len (L.take k) (fun x hx => h x (List.mem_of_mem_take hx))
  have h2 : (L.take k).length ≤ L.length := by rw [List.length_take]; omega
  omega
theorem flat_snoc {L : List Od} {k : Nat} (h : k < L.length) : (L.take (k + 1)).flatMap ordB = (L.take k).flatMap ordB ++ ordB L[k]! := by
  rw [List.take_succ_eq_append_getElem h, List.flatMap_append, getElem!_pos L k h]
  simp
end Go.Proofs.Ytemmbgbmkihbaaa
