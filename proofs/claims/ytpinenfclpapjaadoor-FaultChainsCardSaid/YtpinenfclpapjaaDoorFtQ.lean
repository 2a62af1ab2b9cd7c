/-
  The text that the law makes of layers, and what the other way round is.
-/
import Derived.Test.YtpinenfclpapjaaDoorFtO
namespace Go.Proofs.YtpinenfclpapjaaDoor
open Go.RowKit
set_option linter.unusedVariables false

def jn (l : List Int) (inner : Int) : List UInt8 := Lib.join (txs (rv l inner)) [62]
theorem join_more (x : List UInt8) (xs : List (List UInt8)) (sep : List UInt8) (h : xs ≠ []) : Lib.join (x :: xs) sep = x ++ (sep ++ Lib.join xs sep) := by
  cases xs with
  | nil => exact absurd rfl h
  | cons y r => rw [Lib.join_cons, Lib.join_cons]; simp [Lib.joinTail]
theorem jn_zero (inner : Int) : jn [] inner = Lib.itoa inner := by
  show Lib.join [Lib.itoa inner] [62] = _
  exact Lib.join_one _ _
theorem jn_snoc (l : List Int) (k : Nat) (n inner : Int) (h : l[k]? = some n) : jn (l.take (k + 1)) inner = Lib.itoa n ++ ([62] ++ jn (l.take k) inner) := by
  unfold jn
  rw [rv_snoc l k n inner h]
  show Lib.join (Lib.itoa n :: txs (rv (l.take k) inner)) [62] = _
  exact join_more _ _ _ (by intro e; have := congrArg List.length e; simp [txs, rv] at this)
theorem jn_len (l : List Int) (inner : Int) (h : In64 l) (hi : -9223372036854775808 ≤ inner ∧ inner ≤ 9223372036854775807) : (jn l inner).length ≤ 21 * (l.length + 1) := by
  have := txs_join_len (rv l inner) (rv_in l inner h hi)
  rw [rv_len] at this
  exact this
theorem str3 (x y z : List UInt8) : Value.string (ByteArray.mk x.toArray ++ ByteArray.mk y.toArray ++ ByteArray.mk z.toArray) = Str (x ++ (y ++ z)) := by
  rw [str_app, str_app, List.append_assoc]
theorem rv_last (l : List Int) (inner : Int) (n : Nat) (h : l.length = n) : (rv l inner).getD n 0 = inner := by
  unfold rv
  subst h
  rw [List.getD_eq_getElem?_getD, List.getElem?_append_right (by simp)]
  simp
theorem rv_at (l : List Int) (inner : Int) (n k q : Nat) (h : l.length = n) (hq : q + k + 1 = n) : (rv l inner).getD k 0 = l.getD q 0 := by
  unfold rv
  rw [List.getD_eq_getElem?_getD, List.getElem?_append_left (by simp; omega), List.getElem?_reverse (by omega), List.getD_eq_getElem?_getD]
  congr 2
  omega
theorem text_s (c : Int) (hc : (c == 0) = false) (hc' : (c != 0) = true) (hcc : -9223372036854775808 ≤ c ∧ c ≤ 9223372036854775807) (l : List Int) (inner : Int) (hl : l.length ≤ 100) (hin : In64 l) (hi : -9223372036854775808 ≤ inner ∧ inner ≤ 9223372036854775807) (b : Nat) (w : World) (hL : Laid4 w) (h : Chn w c (rv l inner) b) :
    Calls Tryd.prog 11 #[fvl b] w fun e w' => e = .returned (.string (ByteArray.mk (jn l inner).toArray ++ ByteArray.mk [32].toArray ++ ByteArray.mk (Lib.itoa c).toArray)) ∧ Below w.heap.size w w' :=
  (text_c c hc hc' hcc.1 hcc.2 (rv l inner) (by rw [rv_len]; omega) (rv_in l inner hin hi) b w hL.pw hL.et h hL.lt1).mono fun e w' ⟨he, hb⟩ => ⟨by rw [he, str3]; rfl, hb⟩
theorem layers_s (c : Int) (hc' : (c != 0) = true) (l : List Int) (inner : Int) (n : Nat) (hl : l.length = n) (hn : n ≤ 100) (b : Nat) (w : World) (hL : Laid4 w) (h : Chn w c (rv l inner) b) :
    Calls Tryd.prog 9 #[fvl b] w fun e w' => ∃ g cp, e = .returned (.slice (some ⟨g, 0, none⟩) (n + 1) cp) ∧ n + 1 ≤ cp ∧ Hid (g < w'.heap.size ∧ ∀ i, i < n + 1 → w'.cell? ⟨g, i, none⟩ = some (.int .i64 ((rv l inner).getD i 0))) ∧ Below w.heap.size w w' :=
  (layers_c c hc' (rv l inner) (by rw [rv_len]; omega) b w hL.et h).mono fun e w' ⟨v, he, ho, hb⟩ => by
    have hlen : (rv l inner).length = n + 1 := by rw [rv_len, hl]
    rw [hlen] at ho
    obtain ⟨g, cp, rfl, hg, hc, hx⟩ := own_ints ho (by omega) hlen
    exact ⟨g, cp, he, hc, ⟨hg, hx⟩, hb⟩
end Go.Proofs.YtpinenfclpapjaaDoor
