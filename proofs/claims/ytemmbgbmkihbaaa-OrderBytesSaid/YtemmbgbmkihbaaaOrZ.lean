/- What is sorted stays so. -/
import Derived.Test.YtemmbgbmkihbaaaOrY
import Derived.Test.YtemmbgbmkihbaaaSuI
import Derived.Test.YtemmbgbmkihbaaaOrI
namespace Go.Proofs.Ytemmbgbmkihbaaa
open Go.RowKit Go.Sort Go.Lib Go.Shelf

theorem sortO_idem (L : List Od) : sortO (sortO L) = sortO L := by
  have hR := swo_ltR swo_ltO
  have hm : (L.zipIdx.mergeSort (fun x y => !ltR ltO y x)).Pairwise (fun x y => ltR ltO y x = false) := by
    have := List.pairwise_mergeSort (le := fun x y => !ltR ltO y x) (fun a b c h1 h2 => by
      simp only [Bool.not_eq_true'] at *; exact hR.ntrans _ _ _ h2 h1) (fun a b => by
      cases h : ltR ltO b a with
      | true => have := hR.asymmA h; simp [this]
      | false => simp) L.zipIdx
    exact this.imp (fun h => by simpa using h)
  have hs : (sortO L).Pairwise (fun x y => ltO y x = false) := by
    unfold sortO
    rw [List.pairwise_map]
    exact hm.imp (fun h => (ltR_no.1 h).1)
  have := sortO_eq (L := sortO L) (D := (sortO L).zipIdx) (List.Perm.refl _) (by
    rw [List.pairwise_iff_getElem] at hs ⊢
    intro i j hi hj hij
    rw [List.getElem_zipIdx, List.getElem_zipIdx, ltR_no]
    exact ⟨hs i j (by simpa using hi) (by simpa using hj) hij, .inr (by simp; omega)⟩)
  rw [this, List.zipIdx_map_fst]
theorem bookAny_c (A : Option Addr) (n c : Nat) (L : List Od) (w : World) (H : Ods w A n L) : Calls Try.prog 32 #[.slice A n c] w (BookIs w (bookO L)) := by
  by_cases h : n ≤ 64
  · exact book_c A n c L w H h (sort64_c n h)
  · exact bookLong_c A n c L w H.1 h
end Go.Proofs.Ytemmbgbmkihbaaa
