/- ladder: what a book tells that is nil, or that no call made. -/
import Derived.Test.YtemmbgbmkihbaaaLdT
namespace Go.Proofs.Ytemmbgbmkihbaaa
open Go.RowKit Go.Shelf Go.Sort

/-- No book, or one that no call made, beside an order in its box. -/
structure NbS (w : World) (b : Option Addr) (ob : Nat) (o : Od) (W : World) : Prop where
  bk : Bk W b none nilS nilS
  cl : Cl 32 W ob (OC o)
  be : Below w.heap.size w W
theorem NbS.below {w W W' : World} {b : Option Addr} {ob : Nat} {o : Od} (h : NbS w b ob o W) (hb : Below W.heap.size W W') : NbS w b ob o W' :=
  ⟨h.bk.below hb, (hb.block _ (blk_lt h.cl)).trans h.cl, h.be.trans (hb.mono h.be.size)⟩
theorem NbS.drew {w W : World} {b : Option Addr} {ob : Nat} {o : Od} (h : NbS w b ob o W) : NbS w b ob o W.drew := h.below (Below.refl _ _).drew
theorem NbS.alloc {w W : World} {b : Option Addr} {ob : Nat} {o : Od} (h : NbS w b ob o W) (x : Obj) : NbS w b ob o (W.alloc x) := h.below ((Below.refl _ _).alloc (Nat.le_refl _) _)
theorem nil_book : bookL nilS.rs nilS.rs = [] := rfl
theorem rs_nil (sd : Int) : rsOf nilS nilS sd = [] := by unfold rsOf nilS; (repeat' split) <;> rfl
theorem nb_get {b : Option Addr} {W : World} (id : Int) (h : Bk W b none nilS nilS) : Calls Try.prog 24 #[.pointer b, .int .u64 id] W fun e w' => e = .returned (.tuple #[optV none, .bool false]) ∧ Hid (Below W.heap.size W w') :=
  (lGet_c b none nilS nilS id W h (Nat.zero_le _) (Nat.zero_le _) (Nat.zero_le _)).mono fun e w' ⟨r, he, hr⟩ => by
    obtain rfl : r = none := by
      cases r with
      | none => rfl
      | some y => have := hr.out.1.1; rw [nil_book] at this; cases this
    exact ⟨he, Lib.hid hr.out.2⟩
theorem nb_take {b : Option Addr} {W : World} (id : Int) (h : Bk W b none nilS nilS) : Calls Try.prog 12 #[.pointer b, .int .u64 id] W fun e w' => e = .returned (.tuple #[optV none, .bool false]) ∧ Hid (Below W.heap.size W w') :=
  take_no b none nilS nilS id W h (Nat.zero_le _) (Nat.zero_le _) (Nat.zero_le _) (fun x hx => by rw [nil_book] at hx; cases hx)
theorem nb_best {b : Option Addr} {W : World} (sd : Int) (hs : (Lit.int .i64 sd).wf = true) (h : Bk W b none nilS nilS) : Calls Try.prog 23 #[.pointer b, .int .i64 sd] W fun e w' => e = .returned (.tuple #[optV none, .bool false]) ∧ Hid (Below W.heap.size W w') := by
  have := lBest_c b none nilS nilS sd hs W h (fun r hr => by cases hr)
  rwa [rs_nil] at this
theorem slice_nil {w' : World} {base size n : Nat} {T : TypeId} {v : Value} {xs : List Value} (h : w'.ownsRow base T size v n xs) (hn : n = 0) : ∃ A c, v = .slice A 0 c := by
  obtain ⟨A, c, hv, _⟩ := own_que2 h
  rw [hn] at hv
  exact ⟨A, c, hv⟩
theorem nb_all {b : Option Addr} {W : World} (h : Bk W b none nilS nilS) : Calls Try.prog 21 #[.pointer b] W fun e w' => ∃ A c, e = .returned (.slice A 0 c) ∧ Hid (Below W.heap.size W w') :=
  (lAll_c b none nilS nilS W h (Nat.zero_le _) (Nat.zero_le _) (Nat.zero_le _) (fun r hr => by cases hr)).mono fun e w' ⟨v, he, hv⟩ => by
    obtain ⟨A, c, rfl⟩ := slice_nil hv.out.1 rfl
    exact ⟨A, c, he, Lib.hid hv.out.2⟩
theorem nb_level {b : Option Addr} {W : World} (sd pr : Int) (hs : (Lit.int .i64 sd).wf = true) (h : Bk W b none nilS nilS) : Calls Try.prog 26 #[.pointer b, .int .i64 sd, .int .i64 pr] W fun e w' => ∃ A c, e = .returned (.slice A 0 c) ∧ Hid (Below W.heap.size W w') :=
  (lLevel_c b none nilS nilS sd pr hs W h (side_nil 1) (side_nil 2) (Nat.zero_le _) (Nat.zero_le _) (Nat.zero_le _)).mono fun e w' ⟨v, he, hv⟩ => by
    obtain ⟨A, c, rfl⟩ := slice_nil hv.out.1 (by rw [rs_nil]; rfl)
    exact ⟨A, c, he, Lib.hid hv.out.2⟩
theorem nb_prices {b : Option Addr} {W : World} (sd : Int) (hs : (Lit.int .i64 sd).wf = true) (h : Bk W b none nilS nilS) : Calls Try.prog 22 #[.pointer b, .int .i64 sd] W fun e w' => ∃ A c, e = .returned (.slice A 0 c) ∧ Hid (Below W.heap.size W w') :=
  (lPrices_c b none nilS nilS sd hs W h (Nat.zero_le _) (Nat.zero_le _)).mono fun e w' ⟨v, he, hv⟩ => by
    obtain ⟨A, c, rfl⟩ := slice_nil hv.out.1 (by rw [rs_nil]; rfl)
    exact ⟨A, c, he, Lib.hid hv.out.2⟩
theorem nb_len {b : Option Addr} {W : World} (h : Bk W b none nilS nilS) : Calls Try.prog 27 #[.pointer b] W fun e w' => e = .returned (.int .i64 0) ∧ Hid (Below W.heap.size W w') :=
  lLen_c b none nilS nilS W h (Nat.zero_le _) (Nat.zero_le _) (Nat.zero_le _)
/-- The two books, as they lie. -/
theorem nb_none (W : World) : Bk W none none nilS nilS := ⟨.inl ⟨rfl, rfl⟩, fun _ => ⟨rfl, rfl⟩, fun k h => (by cases h), fun _ => rfl, fun _ => rfl, ⟨rfl, .inl ⟨rfl, rfl⟩⟩, ⟨rfl, .inl ⟨rfl, rfl⟩⟩, fun r h => (by cases h)⟩
theorem nb_bare {W : World} {g : Nat} (h : Cl 58 W g #[.map none]) : Bk W (some ⟨g, 0, none⟩) none nilS nilS := ⟨.inr ⟨g, rfl, h⟩, fun _ => ⟨rfl, rfl⟩, fun k h => (by cases h), fun _ => rfl, fun _ => rfl, ⟨rfl, .inl ⟨rfl, rfl⟩⟩, ⟨rfl, .inl ⟨rfl, rfl⟩⟩, fun r h => (by cases h)⟩
end Go.Proofs.Ytemmbgbmkihbaaa
