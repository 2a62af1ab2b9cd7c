/- requant: the stable sort by came, of a row of the call's own. -/
import Derived.Test.YtpibkjldmmecpaaRqA
import Derived.Test.YtpibkjldmmecpaaOrS
namespace Go.Proofs.Ytpibkjldmmecpaa
open Go.RowKit Go.Sort Go.Lib Go.Shelf

theorem eg_came : ∀ args w, (callFunc 16 args).run Try.prog w = .ok (.enter 16 args) w := enters_of Try.func16 (by kernel_rfl) rfl
theorem lays_came (blk size : Nat) (w : World) : CmpLays Try.prog 16 #[] encD 6 (fun x y => cmpC x.1 y.1) blk 0 size w := fun _ _ _ _ x y =>
  (came_c x.1 y.1 _).mono fun _ _ ⟨h1, h2⟩ => ⟨h1, h2.grow⟩
theorem sortC_c (blk cap n : Nat) (L : List Od) (w : World) (hn : L.length = n) (h1 : n ≤ 160) (hb : blk < w.heap.size) (H : HoldsK encD 6 w blk 0 L.zipIdx.toArray) (hok : ∀ x ∈ L, Od.ok w x) :
    Calls Try.prog 15 #[.slice (some ⟨blk, 0, none⟩) n cap, .func (.func 16) #[] #[]] w fun e w' => e = .returned (.tuple #[]) ∧ Ods w' (some ⟨blk, 0, none⟩) n (sortL ltC L) ∧ Below blk w w' := by
  have hz : L.zipIdx.toArray.size = n := by simp [hn]
  have R : Rw6 w blk L.zipIdx.toArray := ⟨encD_len, encD_one, H, hb⟩
  have := sortStable_c 6 Try.isAgg29 Try.sizeOf29 encD ltC (fun x y => cmpC x.1 y.1) (fun x y => cmpC_lt x.1 y.1) swo_ltC 16 #[] blk 0 cap L.zipIdx.toArray w eg_came R (lays_came blk _ w) L.zipIdx.toArray w rfl (SWK.start H) (by omega) (fun p hp => by rw [zip_fst L p (by omega)])
  rw [hz] at this
  refine this.mono ?_
  rintro e w' ⟨rfl, d', S, M⟩
  rw [← hz] at M
  have hs : d'.size = L.zipIdx.toArray.size := M.1.1
  have hso := sortL_merged swo_ltC (L := L) rfl M
  exact ⟨rfl, ods_of_sort S R hs (by rw [hs, hz]) (by omega) hso (fun x hx => hok x ((sortL_perm L).mem_iff.1 hx)), (sw_gw S (Nat.le_refl _) (by omega)).1⟩
/-- A row of the call's own, or none, sorted. -/
theorem sortRow_c {w : World} {base n : Nat} {v : Value} {L : List Od} (h : w.ownsRow base 29 6 v n (ol L)) (hn : n ≤ 160) (hbase : base ≤ w.heap.size) (hok : ∀ x ∈ L, Od.ok w x) :
    ∃ A c, v = .slice A n c ∧ CapOk A n c ∧ Calls Try.prog 15 #[v, .func (.func 16) #[] #[]] w fun e w' => e = .returned (.tuple #[]) ∧ Ods w' A n (sortL ltC L) ∧ Below base w w' := by
  by_cases hv : v = .slice none 0 0
  · have hl := h.1
    rw [ol_len] at hl
    obtain rfl : n = 0 := by
      rcases h.2 with ⟨_, h0⟩ | ⟨k, cap, cur, hv', _⟩
      · exact h0
      · rw [hv] at hv'; cases hv'
    obtain rfl : L = [] := List.eq_nil_of_length_eq_zero (by omega)
    subst hv
    refine ⟨none, 0, rfl, ⟨Nat.le_refl _, fun _ => rfl⟩, (sortNil_c 0 _ w).mono ?_⟩
    rintro e w' ⟨rfl, rfl⟩
    refine ⟨rfl, ⟨sortL_len [], by omega, ?_, .inl rfl⟩, (Below.refl _ _).mono hbase⟩
    rw [List.eq_nil_of_length_eq_zero (sortL_len (lt := ltC) [])]
    intro x hx
    cases hx
  · obtain ⟨hl, k, cap, rfl, hc, hb, hk, H⟩ := own_holds h hv
    refine ⟨_, _, rfl, ⟨hc, fun h => by cases h⟩, (sortC_c k cap n L w hl hn hk H hok).mono ?_⟩
    rintro e w' ⟨rfl, O, b⟩
    exact ⟨rfl, O, b.mono hb⟩
end Go.Proofs.Ytpibkjldmmecpaa
