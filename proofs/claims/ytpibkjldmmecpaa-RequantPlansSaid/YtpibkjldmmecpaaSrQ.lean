/- A stable sort by blocks of 20, and by merging, in plain words. -/
import Derived.Test.YtpibkjldmmecpaaSrP
namespace Go.Proofs.Ytpibkjldmmecpaa
open Go.Sort

section
variable {β : Type} [Inhabited β] {lt : β → β → Bool}
def Blk (lt : β → β → Bool) (bs lo hi : Nat) (d : Array (β × Nat)) : Prop := ∀ p q, lo ≤ p → p < q → q < hi → p / bs = q / bs → ltR lt d[q]! d[p]! = false
def Ixs (bs lo hi : Nat) (d : Array (β × Nat)) : Prop := ∀ p, lo ≤ p → p < hi → (d[p]!).2 / bs = p / bs
/-- Blocks of 20 ahead of a are sorted, the others are as they were. -/
structure IInv (lt : β → β → Bool) (a n : Nat) (d dk : Array (β × Nat)) : Prop where
  perm : PermIn 0 n d dk
  lo : Blk lt 20 0 a dk
  ix : Ixs 20 0 a dk
  rest : ∀ p, a ≤ p → p < n → (dk[p]!).2 = p
  al : a % 20 = 0
theorem IInv.start (d : Array (β × Nat)) (n : Nat) (h : ∀ p, p < n → (d[p]!).2 = p) : IInv lt 0 n d d :=
  ⟨permIn_refl _ _ _, fun p q _ h1 h2 _ => by omega, fun p _ h1 => by omega, fun p _ hp => h p hp, rfl⟩
theorem IInv.up {a n : Nat} {d dk : Array (β × Nat)} (I : IInv lt a n d dk) {b : Nat} (hb : b ≤ n) : ∀ p q, a ≤ p → p < q → q < b → (dk[p]!).2 < (dk[q]!).2 := fun p q hp hpq hq => by
  rw [I.rest p hp (by omega), I.rest q (by omega) (by omega)]; exact hpq
theorem IInv.step {a n b : Nat} {d dk dk' : Array (β × Nat)} (I : IInv lt a n d dk) (M : Merged lt a b dk dk') (hab : a ≤ b) (hb : b ≤ n) (hb2 : b ≤ a + 20) (hn : n ≤ d.size) :
    PermIn 0 n d dk' ∧ Blk lt 20 0 b dk' ∧ Ixs 20 0 b dk' ∧ (∀ p, b ≤ p → p < n → (dk'[p]!).2 = p) := by
  have hs : dk.size = d.size := I.perm.1
  refine ⟨permIn_trans _ _ _ _ _ I.perm (permIn_mono _ _ _ _ _ _ (Nat.zero_le _) hb (by omega) M.1), fun p q hp hpq hq he => ?_, fun p hp hpb => ?_, fun p hp hpn => ?_⟩
  · have al := I.al
    by_cases h1 : q < a
    · rw [M.1.2.1 p (.inl (by omega)), M.1.2.1 q (.inl h1)]; exact I.lo p q hp hpq h1 he
    · exact M.2 p q (by omega) hpq hq
  · by_cases h1 : p < a
    · rw [M.1.2.1 p (.inl h1)]; exact I.ix p hp h1
    · have al := I.al
      have : (dk'[p]!).2 / 20 = a / 20 := permIn_all dk dk' a b (fun x => x.2 / 20 = a / 20) (by omega) M.1 (fun i hi hib => by
        show (dk[i]!).2 / 20 = a / 20
        rw [I.rest i hi (by omega)]; omega) p (by omega) hpb
      omega
  · rw [M.1.2.1 p (.inr hp)]; exact I.rest p (by omega) hpn
/-- Ahead of a blocks of 2 bs are sorted, from a on blocks of bs. -/
structure MInv (lt : β → β → Bool) (bs a n : Nat) (d dk : Array (β × Nat)) : Prop where
  perm : PermIn 0 n d dk
  lo : Blk lt (2 * bs) 0 a dk
  ixl : Ixs (2 * bs) 0 a dk
  hi : Blk lt bs a n dk
  ixh : Ixs bs a n dk
  al : a % (2 * bs) = 0
theorem MInv.start {bs n : Nat} {d dk : Array (β × Nat)} (P : PermIn 0 n d dk) (hi : Blk lt bs 0 n dk) (ix : Ixs bs 0 n dk) : MInv lt bs 0 n d dk :=
  ⟨P, fun p q _ h1 h2 _ => by omega, fun p _ h1 => by omega, hi, ix, Nat.zero_mod _⟩
theorem MInv.runs {bs a n b : Nat} {d dk : Array (β × Nat)} (I : MInv lt bs a n d dk) (hbs : bs = 20 ∨ bs = 40 ∨ bs = 80) (h1 : a + bs < b) (h2 : b ≤ a + 2 * bs) (hb : b ≤ n) : Runs lt a (a + bs) b dk := by
  have al := I.al
  refine ⟨fun p q hp hpq hq => I.hi p q hp hpq (by omega) ?_, fun p q hp hpq hq => I.hi p q (by omega) hpq (by omega) ?_, fun p q hp hpm hq hqb => ?_⟩
  · rcases hbs with rfl | rfl | rfl <;> omega
  · rcases hbs with rfl | rfl | rfl <;> omega
  · have e1 := I.ixh p hp (by omega)
    have e2 := I.ixh q (by omega) (by omega)
    rcases hbs with rfl | rfl | rfl <;> omega
theorem MInv.step {bs a n b : Nat} {d dk dk' : Array (β × Nat)} (I : MInv lt bs a n d dk) (hbs : bs = 20 ∨ bs = 40 ∨ bs = 80) (M : Merged lt a b dk dk') (hab : a ≤ b) (h2 : b ≤ a + 2 * bs) (hb : b ≤ n) (hn : n ≤ d.size) :
    PermIn 0 n d dk' ∧ Blk lt (2 * bs) 0 b dk' ∧ Ixs (2 * bs) 0 b dk' ∧ Blk lt bs b n dk' ∧ Ixs bs b n dk' := by
  have al := I.al
  have hs : dk.size = d.size := I.perm.1
  have L : ∀ p, p < a → dk'[p]! = dk[p]! := fun p hp => M.1.2.1 p (.inl hp)
  have H : ∀ p, b ≤ p → dk'[p]! = dk[p]! := fun p hp => M.1.2.1 p (.inr hp)
  refine ⟨permIn_trans _ _ _ _ _ I.perm (permIn_mono _ _ _ _ _ _ (Nat.zero_le _) hb (by omega) M.1), fun p q hp hpq hq he => ?_, fun p hp hpb => ?_, fun p q hp hpq hq he => ?_, fun p hp hpn => ?_⟩
  · by_cases h1 : q < a
    · rw [L p (by omega), L q h1]; exact I.lo p q hp hpq h1 he
    · refine M.2 p q ?_ hpq hq
      rcases hbs with rfl | rfl | rfl <;> omega
  · by_cases h1 : p < a
    · rw [L p h1]; exact I.ixl p hp h1
    · have : (dk'[p]!).2 / (2 * bs) = a / (2 * bs) := permIn_all dk dk' a b (fun x => x.2 / (2 * bs) = a / (2 * bs)) (by omega) M.1 (fun i hi hib => by
        have e := I.ixh i hi (by omega)
        show (dk[i]!).2 / (2 * bs) = a / (2 * bs)
        rcases hbs with rfl | rfl | rfl <;> omega) p (by omega) hpb
      rcases hbs with rfl | rfl | rfl <;> omega
  · rw [H p hp, H q (by omega)]; exact I.hi p q (by omega) hpq hq he
  · rw [H p hp]; exact I.ixh p (by omega) hpn
theorem MInv.one {bs a n : Nat} {d dk : Array (β × Nat)} (I : MInv lt bs a n d dk) (hbs : bs = 20 ∨ bs = 40 ∨ bs = 80) (h : n ≤ a + bs) : Merged lt a n dk dk := by
  have al := I.al
  refine ⟨permIn_refl _ _ _, fun p q hp hpq hq => I.hi p q hp hpq hq ?_⟩
  rcases hbs with rfl | rfl | rfl <;> omega
theorem blk_all {bs n : Nat} {dk : Array (β × Nat)} (h : Blk lt bs 0 n dk) (hn : n ≤ bs) : SortedIn (ltR lt) 0 n dk := fun p q hp hpq hq => h p q hp hpq hq (by
  rw [Nat.div_eq_of_lt (by omega), Nat.div_eq_of_lt (by omega)])
/-- What stands in the loop over the sizes of blocks. -/
structure SInv (lt : β → β → Bool) (bs n : Nat) (d dk : Array (β × Nat)) : Prop where
  sz : bs = 20 ∨ bs = 40 ∨ bs = 80 ∨ bs = 160
  perm : PermIn 0 n d dk
  blk : Blk lt bs 0 n dk
  ix : Ixs bs 0 n dk
theorem SInv.less {bs n : Nat} {d dk : Array (β × Nat)} (I : SInv lt bs n d dk) (h : bs < n) (hn : n ≤ 160) : bs = 20 ∨ bs = 40 ∨ bs = 80 := by
  have := I.sz; omega
theorem SInv.next {bs n : Nat} {d dk : Array (β × Nat)} (hbs : bs = 20 ∨ bs = 40 ∨ bs = 80) (h : PermIn 0 n d dk ∧ Blk lt (2 * bs) 0 n dk ∧ Ixs (2 * bs) 0 n dk ∧ Blk lt bs n n dk ∧ Ixs bs n n dk) : SInv lt (2 * bs) n d dk :=
  ⟨by omega, h.1, h.2.1, h.2.2.1⟩
end
end Go.Proofs.Ytpibkjldmmecpaa
