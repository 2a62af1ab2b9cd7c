/- For OrderBytes: bytes appended, nil or not; what is held while both are written. -/
import Derived.Test.YtemmbgbmkihbaaaObS
namespace Go.Proofs.Ytemmbgbmkihbaaa
open Go.RowKit Go.Sort Go.Lib Go.Shelf

theorem append_bytes0 {w : World} {ops : Array Oper} {rest : List Oper} {o : Oper} {a : Act} {Q : Exit → Act → World → Prop} (hgd : o.guard = none) (s x : Operand)
    (ho : o.op = .call { callee := .builtin .append, args := #[s, x], argTypes := #[68, 68] })
    (base : Nat) (v : Value) (bs : List UInt8) (hs : a.eval s = v) (hown : w.ownsRow base 5 1 v bs.length (bs.map byt))
    (A : Option Addr) (m c : Nat) (l : List UInt8) (hx : a.eval x = .slice A m c) (HS : SlB w A m l) (hmc : m ≤ c) (hnil : A = none → c = 0) (h63 : bs.length + m ≤ 1000000) (hbase : base ≤ w.heap.size)
    (h : ∀ v' w' bs', Hid (bs' = bs ++ l) → w'.ownsRow base 5 1 v' bs'.length (bs'.map byt) → Below base w w' → wpList Try.prog ops Q rest (a.put o.dst v') w') : wpList Try.prog ops Q (o :: rest) a w := by
  cases A with
  | some ad => exact append_bytes hgd s x ho base v bs hs hown ad m c l hx HS h63 hbase h
  | none =>
    obtain rfl := hnil rfl
    obtain rfl : m = 0 := by omega
    have e : l = [] := List.length_eq_zero_iff.1 HS.1
    obtain ⟨i0, hi0, hz0, hz1, hz2⟩ := info_parts info_u8
    refine wpList_append_own_none hgd s x _ ho base _ i0 1 Try.underlying68 hi0 v bs.length (bs.map byt) hs hown hx (h v w (bs ++ l) rfl ?_ ((Below.refl _ _).mono hbase))
    rw [e]
    simpa using hown
theorem own_cap {w : World} {base n c size : Nat} {A : Option Addr} {e : TypeId} {xs : List Value} (h : w.ownsRow base e size (.slice A n c) n xs) : n ≤ c := by
  rcases h.2 with ⟨hv, h0⟩ | ⟨k, cap, cur, hv, _, _, hc, _⟩
  · omega
  · injection hv with _ _ e; omega
theorem SlB.some {w : World} {A : Option Addr} {n : Nat} {l : List UInt8} (h : SlB w A n l) (hn : 0 < n) : ∃ b off, A = some ⟨b, off, none⟩ := by
  rcases h.2 with h0 | ⟨b, off, e, _⟩
  · omega
  · exact ⟨b, off, e⟩
/-- The bytes that were written, the orders: held while the reference writes. -/
def BR (w : World) (Ab : Option Addr) (bs : List UInt8) (a0 : Option Addr) (n : Nat) (L : List Od) (w' : World) : Prop := Below w.heap.size w w' ∧ SlB w' Ab bs.length bs ∧ Ods w' a0 n L
theorem BR.b {w Ab bs a0 n L} {w' : World} (h : BR w Ab bs a0 n L w') : Below w.heap.size w w' := h.1
theorem BR.below {w Ab bs a0 n L} {w' w'' : World} (h : BR w Ab bs a0 n L w') (k : Below w'.heap.size w' w'') : BR w Ab bs a0 n L w'' :=
  ⟨h.1.trans (k.mono h.1.size), h.2.1.fr0 (S := fun _ => False) (Fr.of_below k) (fun _ _ _ h => h), h.2.2.below k⟩
theorem BR.drew {w Ab bs a0 n L} {w' : World} (h : BR w Ab bs a0 n L w') : BR w Ab bs a0 n L w'.drew := h.below ((Below.refl _ _).drew)
theorem BR.cv {w Ab bs a0 n L} {w' : World} (h : BR w Ab bs a0 n L w') (c : Nat) : (convert 68 9 (.slice Ab bs.length c)).run Try.prog w' = .ok (Str bs) w' := conv_str h.2.1
theorem empty_own (w w0 : World) (h : w0.heap.size ≤ w.heap.size) : (w.alloc (Obj.cells #[] 5)).ownsRow w0.heap.size 5 1 (.slice (some ⟨w.heap.size, 0, none⟩) 0 0) ([] : List UInt8).length (([] : List UInt8).map byt) :=
  ⟨rfl, .inr ⟨w.heap.size, 0, #[], rfl, h, heap_alloc_new w _, Nat.le_refl _, Nat.zero_le _, rfl, rfl⟩⟩
theorem ordsB_pos (L : List Od) : 0 < (ordsB L).length := by
  unfold ordsB; rw [List.length_append]; have := Co.natB_pos L.length; omega
theorem ordsB_len {w : World} {L : List Od} (h : ∀ x ∈ L, Od.ok w x) (hl : L.length ≤ 100) : (ordsB L).length ≤ 10000 := by
  have a := flat_len L h
  have b := Co.natB_len10 (n := L.length) (by omega)
  unfold ordsB
  rw [List.length_append]
  omega
/-- What is told of the read, either way. -/
theorem read_ways {w : World} {L : List Od} (h : ∀ x ∈ L, Od.ok w x) (hl : L.length ≤ 100) (m : List UInt8) : rdAll (ordsB L ++ m) false = if bookO L = true then (true, L, m, false) else (false, [], [], true) := by
  split
  · exact rdAll_book w L h (by assumption) m
  · exact rdAll_none w L h (by omega) (by cases e : bookO L with | true => contradiction | false => rfl) m
end Go.Proofs.Ytemmbgbmkihbaaa
