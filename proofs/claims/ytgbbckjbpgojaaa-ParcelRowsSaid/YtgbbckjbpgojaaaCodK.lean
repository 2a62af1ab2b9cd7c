/- codec: Open; the chapter's example. -/
import Derived.Test.YtgbbckjbpgojaaaCodJ
namespace Go.Proofs.Ytgbbckjbpgojaaa
open Go.RowKit

/-- 'string(b)' of a slice that reads as bytes. -/
theorem conv_str {w : World} {A : Option Addr} {n c : Nat} {l : List UInt8} (h : SlB w A n l) : (convert 22 9 (.slice A n c)).run Try.prog w = .ok (Str l) w := by
  obtain ⟨hl, h2⟩ := h
  rcases h2 with h0 | ⟨b, off, rfl, _, hc⟩
  · subst h0
    have : l = [] := List.eq_nil_of_length_eq_zero hl
    subst this
    rw [run_convert_bytes_string w 22 9 5 A 0 c Try.underlying22 Try.underlying5 Try.underlying9]
    have h1 : ∀ a : Addr, (loadCells a 0).run Try.prog w = .ok #[] w := fun a => run_loadCells_list (P := Try.prog) w a [] (fun j v h => by simp at h)
    cases A <;> simp [Conv.bytesToString, h1]
    all_goals rfl
  · subst hl
    exact run_convert_bytes_back (P := Try.prog) w 22 9 5 ⟨b, off, none⟩ c l Try.underlying22 Try.underlying5 Try.underlying9 (fun j hj => by
      rw [addr_add, hc j hj, List.getD_eq_getElem?_getD, List.getElem?_eq_getElem hj]; rfl)

theorem Open_c (A : Option Addr) (n c : Nat) (l : List UInt8) (w : World) (h : SlB w A n l) :
    Calls Try.prog 31 #[.slice A n c] w fun e w' => e = .returned (.pointer (some ⟨w.heap.size, 0, none⟩)) ∧ w.alloc (.cells #[Str l, .bool false] 81) = w' := by
  have hcv := conv_str (c := c) h
  clear h
  go_enter Try.func31, Try.ntmps31
  go_wp2
  go_ret
  exact ⟨rfl, rfl⟩

theorem natB_300 : natB 300 = [172, 2] := by rw [natB_big (by omega), natB_small (by omega)]; rfl
theorem natB_one : natB 1 = [1] := by rw [natB_small (by omega)]; rfl
theorem natB_zero : natB 0 = [0] := by rw [natB_small (by omega)]; rfl
theorem WS.new (w : World) : WS (w.alloc (.cells #[.pointer none, .int .i64 0] 58)) w.heap.size (· = w.heap.size) [] :=
  ⟨rfl, fun k hk => by simp [hk], .inl ⟨rfl, heap_alloc_new w _⟩⟩
/-- A row of the call's own, read as bytes, empty or not. -/
theorem own_slb0 {w : World} {base n c : Nat} {A : Option Addr} {l : List UInt8} (h : w.ownsRow base 5 1 (.slice A n c) n (l.map byt)) : SlB w A n l := by
  rcases Nat.eq_zero_or_pos n with h0 | h0
  · subst h0
    have h1 := h.1
    exact ⟨by simpa using h1, .inl rfl⟩
  · obtain ⟨k, cap, hv, _, _, hs⟩ := own_slb h h0
    injection hv with h1 _ _
    rw [h1]; exact hs

end Go.Proofs.Ytgbbckjbpgojaaa
