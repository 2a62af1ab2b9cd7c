/- For the laws on orders' bytes: both readers, and what was read. -/
import Derived.Test.YtemmbgbmkihbaaaObQ
namespace Go.Proofs.Ytemmbgbmkihbaaa
open Go.RowKit Go.Sort Go.Lib Go.Shelf

theorem Ods.fr {S : Nat → Prop} {w w' : World} {A : Option Addr} {n : Nat} {L : List Od} (h : Ods w A n L) (hf : Fr S w w') (hn : ∀ a, A = some a → ¬ S a.block) : Ods w' A n L := by
  obtain ⟨h1, hle, h2, h3⟩ := h
  refine ⟨h1, hle, h2, ?_⟩
  rcases h3 with h0 | ⟨b, off, rfl, hlt, hc⟩
  · exact .inl h0
  · refine .inr ⟨b, off, rfl, Nat.lt_of_lt_of_le hlt hf.size, fun i hi => ?_⟩
    have hb := hf.block b hlt (hn _ rfl)
    have e : ∀ o, w'.cell? ⟨b, o, none⟩ = w.cell? ⟨b, o, none⟩ := fun o => World.cell?_of_block (w := w) hb
    have := hc i hi
    unfold Od.at at this ⊢
    simpa only [e] using this
theorem rdAll_len (l : List UInt8) (bd : Bool) : (rdAll l bd).2.1.length ≤ 64 := by
  unfold rdAll
  simp only
  split
  · simp
  · simp only [rdOs_len]
    exact (Co.rdN_bound l bd 64).1
/-- Both readers behind both reads, and both rows of orders. -/
def SR (w : World) (g q : Nat) (Aq : Option Addr) (nq cq : Nat) (l : List UInt8) (b : Bool) (A1 A2 : Option Addr) (n : Nat) (L : List Od) (w' : World) : Prop :=
  Below w.heap.size w w' ∧ Co.RB w' g l b ∧ w'.heap[q]? = some (.cells #[.slice Aq nq cq, .bool b] 78 (0, 0)) ∧ Ods w' A1 n L ∧ Ods w' A2 n L
theorem SR.below {w g q Aq nq cq l b A1 A2 n L} {w' w'' : World} (h : SR w g q Aq nq cq l b A1 A2 n L w') (k : Below w'.heap.size w' w'') : SR w g q Aq nq cq l b A1 A2 n L w'' := by
  obtain ⟨h1, h2, h3, h4, h5⟩ := h
  exact ⟨h1.trans (k.mono h1.size), rb_below h2 k, (k.block q (blk_lt h3)).trans h3, h4.below k, h5.below k⟩
theorem SR.drew {w g q Aq nq cq l b A1 A2 n L} {w' : World} (h : SR w g q Aq nq cq l b A1 A2 n L w') : SR w g q Aq nq cq l b A1 A2 n L w'.drew := h.below ((Below.refl _ _).drew)
theorem SR.c0 {w g q Aq nq cq l b A1 A2 n L} {w' : World} (h : SR w g q Aq nq cq l b A1 A2 n L w') : w'.cell? ⟨q, 0, none⟩ = some (.slice Aq nq cq) := by rw [cell_of_row _ _ _ _ _ _ h.2.2.1]; rfl
theorem SR.c1 {w g q Aq nq cq l b A1 A2 n L} {w' : World} (h : SR w g q Aq nq cq l b A1 A2 n L w') : w'.cell? ⟨q, 1, none⟩ = some (.bool b) := by rw [cell_of_row _ _ _ _ _ _ h.2.2.1]; rfl
/-- The start of OrderReads: the two readers. -/
theorem two_readers (w : World) (A : Option Addr) (n c : Nat) (l : List UInt8) (hs : SlB w A n l) (hc : n ≤ c) (hm : c ≤ maxLen) (hA : ∀ a, A = some a → 0 < c → a.block < w.heap.size) :
    ∀ W, W = (w.alloc (.cells #[Str l, .bool false] 119)).alloc (.cells #[.slice A n c, .bool false] 78) →
      Below w.heap.size w W ∧ Co.RB W w.heap.size l false ∧ Co.RR W w.heap.size (w.heap.size + 1) l false ∧ W.heap.size = w.heap.size + 2 := by
  rintro W rfl
  have b : Below w.heap.size w ((w.alloc (.cells #[Str l, .bool false] 119)).alloc (.cells #[.slice A n c, .bool false] 78)) := ((Below.refl _ _).alloc (Nat.le_refl _) _).alloc (by simp) _
  refine ⟨b, hd_prev (by simp) (heap_alloc_new w _), ⟨A, n, c, hd_last (by simp), ?_, hc, hm, by omega, hA⟩, by simp⟩
  exact hs.fr0 (S := fun _ => False) (Fr.of_below b) (fun _ _ _ h => h)
/-- Behind both reads. -/
theorem both_read {w u1 u2 u3 : World} {g q n : Nat} {t : List UInt8} {b : Bool} {A1 A2 : Option Addr} {L : List Od} (hg : g = w.heap.size) (hq : q = w.heap.size + 1) (h1 : Below w.heap.size w u1) (hz : u1.heap.size = w.heap.size + 2)
    (t2 : Co.Tch g u1 u2) (r2 : Co.RB u2 g t b) (o2 : Ods u2 A1 n L) (a2 : ∀ a, A1 = some a → u1.heap.size ≤ a.block) (t3 : Co.Tch q u2 u3) (r3 : Co.RR u3 w.heap.size q t b) (o3 : Ods u3 A2 n L) :
    ∃ Aq nq cq, SR w g q Aq nq cq t b A1 A2 n L u3 ∧ nq = t.length := by
  obtain ⟨Aq, nq, cq, h0, hs, _⟩ := r3
  refine ⟨Aq, nq, cq, ⟨?_, ?_, h0, ?_, o3⟩, hs.1.symm⟩
  · refine h1.trans ?_
    have a : Fr (fun k => k = g ∨ k = q) u1 u2 := (Fr.tch t2).mono (fun k hk => .inl (.inl hk))
    have c : Fr (fun k => k = g ∨ k = q) u2 u3 := (Fr.tch t3).mono (fun k hk => .inl (.inr hk))
    exact (a.trans c (fun k hk => .inl hk)).below (fun k hk => by omega) (by omega)
  · exact (Fr.tch t3).blk r2 (by omega)
  · exact o2.fr (Fr.tch t3) (fun a e hk => by have := a2 a e; omega)
end Go.Proofs.Ytemmbgbmkihbaaa
