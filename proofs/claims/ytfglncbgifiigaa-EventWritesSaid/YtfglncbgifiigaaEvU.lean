/- For the laws on events' bytes: both readers, and what was read. (Out of XObS.) -/
import Derived.Test.YtfglncbgifiigaaEvL
import Derived.Laws.AppendOwnNone
namespace Go.Proofs.Ytfglncbgifiigaa
open Go.RowKit Go.Sort Go.Lib
set_option linter.unusedVariables false

/-- Both readers behind both reads, and both rows of events. -/
def SR (w : World) (g q : Nat) (Aq : Option Addr) (nq cq : Nat) (l : List UInt8) (b : Bool) (A1 A2 : Option Addr) (n : Nat) (L : List Ev) (w' : World) : Prop :=
  Below w.heap.size w w' ∧ Co.RB w' g l b ∧ w'.heap[q]? = some (.cells #[.slice Aq nq cq, .bool b] 46 (0, 0)) ∧ Evs w' A1 n L ∧ Evs w' A2 n L
theorem SR.below {w g q Aq nq cq l b A1 A2 n L} {w' w'' : World} (h : SR w g q Aq nq cq l b A1 A2 n L w') (k : Below w'.heap.size w' w'') : SR w g q Aq nq cq l b A1 A2 n L w'' := by
  obtain ⟨h1, h2, h3, h4, h5⟩ := h
  exact ⟨h1.trans (k.mono h1.size), rb_below h2 k, (k.block q (blk_lt h3)).trans h3, h4.below k, h5.below k⟩
theorem SR.drew {w g q Aq nq cq l b A1 A2 n L} {w' : World} (h : SR w g q Aq nq cq l b A1 A2 n L w') : SR w g q Aq nq cq l b A1 A2 n L w'.drew := h.below ((Below.refl _ _).drew)
theorem SR.c0 {w g q Aq nq cq l b A1 A2 n L} {w' : World} (h : SR w g q Aq nq cq l b A1 A2 n L w') : w'.cell? ⟨q, 0, none⟩ = some (.slice Aq nq cq) := by rw [cell_of_row _ _ _ _ _ _ h.2.2.1]; rfl
theorem SR.c1 {w g q Aq nq cq l b A1 A2 n L} {w' : World} (h : SR w g q Aq nq cq l b A1 A2 n L w') : w'.cell? ⟨q, 1, none⟩ = some (.bool b) := by rw [cell_of_row _ _ _ _ _ _ h.2.2.1]; rfl
/-- The start of EventReads: the two readers. -/
theorem two_readers (w : World) (A : Option Addr) (n c : Nat) (l : List UInt8) (hs : SlB w A n l) (hc : n ≤ c) (hm : c ≤ maxLen) (hA : ∀ a, A = some a → 0 < c → a.block < w.heap.size) :
    ∀ W, W = (w.alloc (.cells #[Str l, .bool false] 65)).alloc (.cells #[.slice A n c, .bool false] 46) →
      Below w.heap.size w W ∧ Co.RB W w.heap.size l false ∧ Co.RR W w.heap.size (w.heap.size + 1) l false ∧ W.heap.size = w.heap.size + 2 := by
  rintro W rfl
  have b : Below w.heap.size w ((w.alloc (.cells #[Str l, .bool false] 65)).alloc (.cells #[.slice A n c, .bool false] 46)) := ((Below.refl _ _).alloc (Nat.le_refl _) _).alloc (by simp) _
  refine ⟨b, hd_prev (by simp) (heap_alloc_new w _), ⟨A, n, c, hd_last (by simp), ?_, hc, hm, by omega, hA⟩, by simp⟩
  exact hs.fr0 (S := fun _ => False) (Fr.of_below b) (fun _ _ _ h => h)
/-- Behind both reads. -/
theorem both_read {w u1 u2 u3 : World} {g q n : Nat} {t : List UInt8} {b : Bool} {A1 A2 : Option Addr} {L : List Ev} (hg : g = w.heap.size) (hq : q = w.heap.size + 1) (h1 : Below w.heap.size w u1) (hz : u1.heap.size = w.heap.size + 2)
    (t2 : Co.Tch g u1 u2) (r2 : Co.RB u2 g t b) (o2 : Evs u2 A1 n L) (a2 : ∀ a, A1 = some a → u1.heap.size ≤ a.block) (t3 : Co.Tch q u2 u3) (r3 : Co.RR u3 w.heap.size q t b) (o3 : Evs u3 A2 n L) :
    ∃ Aq nq cq, SR w g q Aq nq cq t b A1 A2 n L u3 ∧ nq = t.length := by
  obtain ⟨Aq, nq, cq, h0, hs, _⟩ := r3
  refine ⟨Aq, nq, cq, ⟨?_, ?_, h0, ?_, o3⟩, hs.1.symm⟩
  · refine h1.trans ?_
    have a : Fr (fun k => k = g ∨ k = q) u1 u2 := (Fr.tch t2).mono (fun k hk => .inl (.inl hk))
    have c : Fr (fun k => k = g ∨ k = q) u2 u3 := (Fr.tch t3).mono (fun k hk => .inl (.inr hk))
    exact (a.trans c (fun k hk => .inl hk)).below (fun k hk => by omega) (by omega)
  · exact (Fr.tch t3).blk r2 (by omega)
  · exact o2.fr (Fr.tch t3) (fun a e hk => by have := a2 a e; omega)
/-- What was read is written again. -/
theorem again {l : List UInt8} {L : List Ev} {t : List UInt8} {b : Bool} (h : rdAllE l false = (true, L, t, b)) : bytesE L = (evsB L, 0) ∧ l = evsB L ++ t ∧ l.take (evsB L).length = evsB L ∧ l.length = (evsB L).length + t.length := by
  obtain ⟨h1, h2, h3⟩ := rdAll_fwd h
  refine ⟨by unfold bytesE; rw [if_neg (by omega), if_pos h3], h1, ?_, by rw [h1, List.length_append]⟩
  conv => lhs; rw [h1]
  simp
theorem SR.str {w g q Aq nq cq l b A1 A2 n L} {w' : World} (h : SR w g q Aq nq cq l b A1 A2 n L w') {A : Option Addr} {m : Nat} {s : List UInt8} (hs : SlB w A m s) (k c : Nat) (hk : k ≤ m) : (convert 23 9 (.slice A k c)).run Try.prog w' = .ok (Str (s.take k)) w' :=
  conv_str ((hs.fr0 (S := fun _ => False) (Fr.of_below h.1) (fun _ _ _ h => h)).take k hk)
theorem append_bytes0 {w : World} {ops : Array Oper} {rest : List Oper} {o : Oper} {a : Act} {Q : Exit → Act → World → Prop} (hgd : o.guard = none) (s x : Operand)
    (ho : o.op = .call { callee := .builtin .append, args := #[s, x], argTypes := #[23, 23] })
    (base : Nat) (v : Value) (bs : List UInt8) (hs : a.eval s = v) (hown : w.ownsRow base 5 1 v bs.length (bs.map byt))
    (A : Option Addr) (m c : Nat) (l : List UInt8) (hx : a.eval x = .slice A m c) (HS : SlB w A m l) (hmc : m ≤ c) (hnil : A = none → c = 0) (h63 : bs.length + m ≤ 1000000) (hbase : base ≤ w.heap.size)
    (h : ∀ v' w' bs', Hid (bs' = bs ++ l) → w'.ownsRow base 5 1 v' bs'.length (bs'.map byt) → Below base w w' → wpList Try.prog ops Q rest (a.put o.dst v') w') : wpList Try.prog ops Q (o :: rest) a w := by
  cases A with
  | some ad => exact append_bytes hgd s x ho base v bs hs hown ad m c l hx HS h63 hbase (fun v' w' bs' h1 h2 h3 _ => h v' w' bs' h1 h2 h3)
  | none =>
    obtain rfl := hnil rfl
    obtain rfl : m = 0 := by omega
    have e : l = [] := List.length_eq_zero_iff.1 HS.1
    obtain ⟨i0, hi0, hz0, hz1, hz2⟩ := info_parts info_u8
    refine wpList_append_own_none hgd s x _ ho base _ i0 1 Try.underlying23 hi0 v bs.length (bs.map byt) hs hown hx (h v w (bs ++ l) rfl ?_ ((Below.refl _ _).mono hbase))
    rw [e]
    simpa using hown
theorem own_cap {w : World} {base n c size : Nat} {A : Option Addr} {e : TypeId} {xs : List Value} (h : w.ownsRow base e size (.slice A n c) n xs) : n ≤ c := by
  rcases h.2 with ⟨hv, h0⟩ | ⟨k, cap, cur, hv, _, _, hc, _⟩
  · omega
  · injection hv with _ _ e; omega
theorem SlB.some {w : World} {A : Option Addr} {n : Nat} {l : List UInt8} (h : SlB w A n l) (hn : 0 < n) : ∃ b off, A = some ⟨b, off, none⟩ := by
  rcases h.2 with h0 | ⟨b, off, e, _⟩
  · omega
  · exact ⟨b, off, e⟩
/-- The bytes that were written, the events: held while the reference writes. -/
def BR (w : World) (Ab : Option Addr) (bs : List UInt8) (a0 : Option Addr) (n : Nat) (L : List Ev) (w' : World) : Prop := Below w.heap.size w w' ∧ SlB w' Ab bs.length bs ∧ Evs w' a0 n L
theorem BR.b {w Ab bs a0 n L} {w' : World} (h : BR w Ab bs a0 n L w') : Below w.heap.size w w' := h.1
theorem BR.below {w Ab bs a0 n L} {w' w'' : World} (h : BR w Ab bs a0 n L w') (k : Below w'.heap.size w' w'') : BR w Ab bs a0 n L w'' :=
  ⟨h.1.trans (k.mono h.1.size), h.2.1.fr0 (S := fun _ => False) (Fr.of_below k) (fun _ _ _ h => h), h.2.2.below k⟩
theorem BR.drew {w Ab bs a0 n L} {w' : World} (h : BR w Ab bs a0 n L w') : BR w Ab bs a0 n L w'.drew := h.below ((Below.refl _ _).drew)
theorem BR.cv {w Ab bs a0 n L} {w' : World} (h : BR w Ab bs a0 n L w') (c : Nat) : (convert 23 9 (.slice Ab bs.length c)).run Try.prog w' = .ok (Str bs) w' := conv_str h.2.1
theorem empty_own (w w0 : World) (h : w0.heap.size ≤ w.heap.size) : (w.alloc (Obj.cells #[] 5)).ownsRow w0.heap.size 5 1 (.slice (some ⟨w.heap.size, 0, none⟩) 0 0) ([] : List UInt8).length (([] : List UInt8).map byt) :=
  ⟨rfl, .inr ⟨w.heap.size, 0, #[], rfl, h, heap_alloc_new w _, Nat.le_refl _, Nat.zero_le _, rfl, rfl⟩⟩
end Go.Proofs.Ytfglncbgifiigaa
