/- XLdW, XLdX, XLdY, in one text. (By mkmerge.py.) -/
import Derived.Test.YtemmbgbmkihbaaaRbB
import Derived.Test.YtemmbgbmkihbaaaLdS

/- ladder and the reference's book, side by side. -/
namespace Go.Proofs.Ytemmbgbmkihbaaa
open Go.RowKit Go.Sort Go.Lib Go.Shelf

/-- The blocks of a book are of its own kinds. -/
theorem foot_kind {W : World} {b : Option Addr} {m : Option Nat} {s1 s2 : Sd} (H : Bk W b m s1 s2) {k : Nat} (hk : foot b m s1 s2 k) {cs : Array Value} {T : TypeId} (h : W.heap[k]? = some (.cells cs T (0, 0))) : T = 58 ∨ T = 87 ∨ T = 32 := by
  rcases hk with e | e | e | e | ⟨r, hr, e⟩
  · rcases H.shape with ⟨h0, _⟩ | ⟨p, hb, hp⟩
    · rw [h0] at e; cases e
    · rw [hb] at e; injection e with e; injection e with e; subst e
      rw [h] at hp; injection hp with hp; injection hp with _ hp; exact .inl hp
  · obtain ⟨es, clock, hb, _⟩ := H.mp k e
    rw [h] at hb; cases hb
  · obtain ⟨cs', hc⟩ := own_blk H.r1 e
    rw [h] at hc; injection hc with hc; injection hc with _ hc; exact .inr (.inl hc)
  · obtain ⟨cs', hc⟩ := own_blk H.r2 e
    rw [h] at hc; injection hc with hc; injection hc with _ hc; exact .inr (.inl hc)
  · obtain ⟨cs', hc⟩ := own_blk (H.q r hr) e
    rw [h] at hc; injection hc with hc; injection hc with _ hc; exact .inr (.inr hc)
theorem rb_fr {W W' : World} {wb : Nat} {M : List Od} {b : Option Addr} {m : Option Nat} {s1 s2 : Sd} (R : RB W wb M) (H : Bk W b m s1 s2) (hf : Fr (foot b m s1 s2) W W') : RB W' wb M := by
  obtain ⟨A, c, hc, hr⟩ := R
  refine ⟨A, c, hf.blk hc (fun h => ?_), own_fr hr hf (fun k hk h => ?_)⟩
  · rcases foot_kind H h hc with e | e | e <;> exact absurd e (by decide)
  · obtain ⟨cs, hcs⟩ := own_blk hr hk
    rcases foot_kind H h hcs with e | e | e <;> exact absurd e (by decide)
theorem rb_low {W W' : World} {wb : Nat} {M : List Od} (R : RB W wb M) (hb : Below W.heap.size W W') : RB W' wb M := by
  obtain ⟨A, c, hc, hr⟩ := R
  exact ⟨A, c, (hb.block _ (blk_lt hc)).trans hc, own_low hr hb⟩
theorem foot_ne {W : World} {wb : Nat} {M : List Od} {b : Option Addr} {m : Option Nat} {s1 s2 : Sd} (R : RB W wb M) (H : Bk W b m s1 s2) : ∀ k, foot b m s1 s2 k → ¬ k = wb := by
  rintro k hk rfl
  obtain ⟨A, c, hc, _⟩ := R
  rcases foot_kind H hk hc with e | e | e <;> exact absurd e (by decide)
theorem whole_rb {W W' : World} {wb p m : Nat} {M : List Od} {s1 s2 : Sd} (R : RB W wb M) (H : Whole W p m s1 s2) (hf : Fr (fun k => k = wb) W W') : Whole W' p m s1 s2 := H.fr hf (foot_ne R H.bk)
/-- What the book has is what Sorted makes of it. -/
theorem put_sort {w w' : World} {p m : Nat} {s1 s2 s1' s2' : Sd} {o : Od} (h : PutIs w w' p m s1 s2 s1' s2' o) : sortO (bookL s1.rs s2.rs ++ [o]) = bookL s1'.rs s2'.rs :=
  sortO_uniq (h.perm.trans (List.perm_append_comm (l₁ := [o]) (l₂ := bookL s1.rs s2.rs))) h.wh.pw
/-- Both tell the same, and have the same. -/
theorem add_same {w w' v v' : World} {p m wb : Nat} {s1 s2 s1' s2' : Sd} {M M' : List Od} {o : Od} {c c' : Int} (h : AddIs w w' p m s1 s2 s1' s2' o c) (k : RAdd v v' wb M M' o c') (hM : M = bookL s1.rs s2.rs) (hl : M.length ≤ 64) : c = c' ∧ M' = bookL s1'.rs s2'.rs := by
  subst hM
  obtain ⟨_, _, k⟩ := k
  rcases h with ⟨rfl, hg, rfl, rfl, _⟩ | ⟨hg, rfl, ⟨x, hx, hi⟩, rfl, rfl, _⟩ | ⟨hg, hid, ⟨rfl, hl', rfl, rfl, _⟩ | ⟨rfl, hl', hp⟩⟩
  · rcases k with ⟨_, rfl, rfl⟩ | ⟨hg', _⟩ | ⟨hg', _⟩
    · exact ⟨rfl, rfl⟩
    · rw [hg] at hg'; cases hg'
    · rw [hg] at hg'; cases hg'
  · rcases k with ⟨hg', _⟩ | ⟨_, rfl, _, rfl⟩ | ⟨_, hid', _⟩
    · rw [hg] at hg'; cases hg'
    · exact ⟨rfl, rfl⟩
    · exact absurd hi (hid' x hx)
  · rcases k with ⟨hg', _⟩ | ⟨_, _, ⟨x, hx, hi⟩, _⟩ | ⟨_, _, ⟨_, rfl, rfl⟩ | ⟨hlt, _⟩⟩
    · rw [hg] at hg'; cases hg'
    · exact absurd hi (hid x hx)
    · exact ⟨rfl, rfl⟩
    · omega
  · rcases k with ⟨hg', _⟩ | ⟨_, _, ⟨x, hx, hi⟩, _⟩ | ⟨_, _, ⟨hlt, _⟩ | ⟨_, rfl, rfl⟩⟩
    · rw [hg] at hg'; cases hg'
    · exact absurd hi (hid x hx)
    · omega
    · exact ⟨rfl, put_sort hp⟩
/-- Behind Add: the book is whole; what has turned. -/
theorem add_whole {w w' : World} {p m : Nat} {s1 s2 s1' s2' : Sd} {o : Od} {c : Int} (H : Whole w p m s1 s2) (h : AddIs w w' p m s1 s2 s1' s2' o c) : Whole w' p m s1' s2' ∧ Fr (foot (some ⟨p, 0, none⟩) (some m) s1 s2) w w' ∧ (∀ k, foot (some ⟨p, 0, none⟩) (some m) s1' s2' k → foot (some ⟨p, 0, none⟩) (some m) s1 s2 k ∨ w.heap.size ≤ k) := by
  rcases h with ⟨_, _, rfl, rfl, hb⟩ | ⟨_, _, _, rfl, rfl, hb⟩ | ⟨_, _, ⟨_, _, rfl, rfl, hb⟩ | ⟨_, _, hp⟩⟩
  · exact ⟨H.below hb, Fr.of_below hb, fun k hk => .inl hk⟩
  · exact ⟨H.below hb, Fr.of_below hb, fun k hk => .inl hk⟩
  · exact ⟨H.below hb, Fr.of_below hb, fun k hk => .inl hk⟩
  · exact ⟨hp.wh, hp.fr, hp.ft⟩
/-- What is in the book behind Add, where only the order itself bears its ID, and there is room. -/
theorem add_mem {w w' : World} {p m : Nat} {s1 s2 s1' s2' : Sd} {o : Od} {c : Int} (h : AddIs w w' p m s1 s2 s1' s2' o c) (hu : ∀ x ∈ bookL s1.rs s2.rs, x.id = o.id → x = o) (hl : (bookL s1.rs s2.rs).length < 64) :
    (∀ x, x ∈ bookL s1'.rs s2'.rs ↔ x ∈ bookL s1.rs s2.rs ∨ (x = o ∧ goodO o = true)) ∧ (bookL s1'.rs s2'.rs).length ≤ (bookL s1.rs s2.rs).length + 1 := by
  rcases h with ⟨_, hg, rfl, rfl, _⟩ | ⟨hg, _, ⟨y, hy, hi⟩, rfl, rfl, _⟩ | ⟨hg, hid, ⟨_, hl', rfl, rfl, _⟩ | ⟨_, hl', hp⟩⟩
  · refine ⟨fun x => ⟨.inl, fun h => ?_⟩, Nat.le_succ _⟩
    rcases h with h | ⟨_, h⟩
    · exact h
    · rw [hg] at h; cases h
  · refine ⟨fun x => ⟨.inl, fun h => ?_⟩, Nat.le_succ _⟩
    rcases h with h | ⟨rfl, _⟩
    · exact h
    · rw [← hu y hy hi]; exact hy
  · omega
  · refine ⟨fun x => ?_, by rw [hp.perm.length_eq, List.length_cons]; exact Nat.le_refl _⟩
    rw [hp.perm.mem_iff, List.mem_cons]
    exact ⟨fun h => h.elim (fun h => .inr ⟨h, hg⟩) .inl, fun h => h.elim .inr (fun h => .inl h.1)⟩
/-- Two rows that stand as they trade, of the same orders, are one. -/
theorem uniq_mem : ∀ {A B : List Od}, A.Pairwise (fun x y => ltO x y = true) → B.Pairwise (fun x y => ltO x y = true) → (∀ x, x ∈ A ↔ x ∈ B) → A = B
  | [], [], _, _, _ => rfl
  | [], y :: B, _, _, h => by have := (h y).2 (by simp); cases this
  | x :: A, [], _, _, h => by have := (h x).1 (by simp); cases this
  | x :: A, y :: B, ha, hb, h => by
    rw [List.pairwise_cons] at ha hb
    have e : x = y := by
      rcases List.mem_cons.1 ((h x).1 (by simp)) with e | e
      · exact e
      · rcases List.mem_cons.1 ((h y).2 (by simp)) with e' | e'
        · exact e'.symm
        · have h1 := hb.1 x e
          have h2 := ha.1 y e'
          rw [lt_asym h1] at h2; cases h2
    subst e
    congr 1
    refine uniq_mem ha.2 hb.2 (fun z => ⟨fun hz => ?_, fun hz => ?_⟩)
    · rcases List.mem_cons.1 ((h z).1 (by simp [hz])) with rfl | e
      · have := ha.1 z hz; rw [lt_irr] at this; cases this
      · exact e
    · rcases List.mem_cons.1 ((h z).2 (by simp [hz])) with rfl | e
      · have := hb.1 z hz; rw [lt_irr] at this; cases this
      · exact e
end Go.Proofs.Ytemmbgbmkihbaaa

/- LadderOrder, walked. -/
namespace Go.Proofs.Ytemmbgbmkihbaaa
open Go.RowKit Go.Sort Go.Lib Go.Shelf

/-- Two books and the reference's one, side by side. -/
structure Tri (w W : World) (pa ma : Nat) (a1 a2 : Sd) (pb mb : Nat) (b1 b2 : Sd) (wb : Nat) (M : List Od) : Prop where
  wa : Whole W pa ma a1 a2
  wv : Whole W pb mb b1 b2
  rb : RB W wb M
  be : Below w.heap.size w W
  loa : ∀ k, foot (some ⟨pa, 0, none⟩) (some ma) a1 a2 k → w.heap.size ≤ k
  lob : ∀ k, foot (some ⟨pb, 0, none⟩) (some mb) b1 b2 k → w.heap.size ≤ k
  low : w.heap.size ≤ wb
  dj : ∀ k, foot (some ⟨pa, 0, none⟩) (some ma) a1 a2 k → ¬ foot (some ⟨pb, 0, none⟩) (some mb) b1 b2 k
section
variable {w W W' : World} {pa ma pb mb wb : Nat} {a1 a2 b1 b2 : Sd} {M : List Od}
theorem Tri.below (h : Tri w W pa ma a1 a2 pb mb b1 b2 wb M) (hb : Below W.heap.size W W') : Tri w W' pa ma a1 a2 pb mb b1 b2 wb M :=
  ⟨h.wa.below hb, h.wv.below hb, rb_low h.rb hb, h.be.trans (hb.mono h.be.size), h.loa, h.lob, h.low, h.dj⟩
theorem Tri.addA {a1' a2' : Sd} {o : Od} {c : Int} (h : Tri w W pa ma a1 a2 pb mb b1 b2 wb M) (k : AddIs W W' pa ma a1 a2 a1' a2' o c) : Tri w W' pa ma a1' a2' pb mb b1 b2 wb M := by
  obtain ⟨k1, k2, k3⟩ := add_whole h.wa k
  refine ⟨k1, h.wv.fr k2 (fun j hj hj' => h.dj j hj' hj), rb_fr h.rb h.wa.bk k2, h.be.trans (k2.below h.loa h.be.size), fun j hj => ?_, h.lob, h.low, fun j hj hj' => ?_⟩
  · rcases k3 j hj with e | e
    · exact h.loa j e
    · exact Nat.le_trans h.be.size e
  · rcases k3 j hj with e | e
    · exact h.dj j e hj'
    · have := h.wv.bk.lt hj'; omega
theorem Tri.addB {b1' b2' : Sd} {o : Od} {c : Int} (h : Tri w W pa ma a1 a2 pb mb b1 b2 wb M) (k : AddIs W W' pb mb b1 b2 b1' b2' o c) : Tri w W' pa ma a1 a2 pb mb b1' b2' wb M := by
  obtain ⟨k1, k2, k3⟩ := add_whole h.wv k
  refine ⟨h.wa.fr k2 (fun j hj hj' => h.dj j hj hj'), k1, rb_fr h.rb h.wv.bk k2, h.be.trans (k2.below h.lob h.be.size), h.loa, fun j hj => ?_, h.low, fun j hj hj' => ?_⟩
  · rcases k3 j hj with e | e
    · exact h.lob j e
    · exact Nat.le_trans h.be.size e
  · rcases k3 j hj' with e | e
    · exact h.dj j hj e
    · have := h.wa.bk.lt hj; omega
theorem Tri.ref {M' : List Od} {o : Od} {c : Int} (h : Tri w W pa ma a1 a2 pb mb b1 b2 wb M) (k : RAdd W W' wb M M' o c) : Tri w W' pa ma a1 a2 pb mb b1 b2 wb M' :=
  ⟨whole_rb h.rb h.wa k.2.1, whole_rb h.rb h.wv k.2.1, k.1, h.be.trans (k.2.1.below (fun j hj => by subst hj; exact h.low) h.be.size), h.loa, h.lob, h.low, h.dj⟩
end
/-- An order of the list, with its place for an ID. -/
def oN (its : List Od) (i : Nat) : Od := ⟨(i : Int), (its[i]!).acc, (its[i]!).side, (its[i]!).price, (its[i]!).qty, (its[i]!).seq⟩
theorem oN_ok {w : World} {its : List Od} {i : Nat} (h : ∀ x ∈ its, Od.ok w x) (hi : i < its.length) (hn : its.length ≤ 64) : Od.ok w (oN its i) := by
  have := h (its[i]!) (by rw [getElem!_pos its i hi]; exact List.getElem_mem hi)
  unfold Od.ok at this ⊢
  refine ⟨⟨by show (0 : Int) ≤ (i : Int); omega, by show (i : Int) ≤ _; omega⟩, this.2⟩
/-- What is in a book to which some orders of the list were added. -/
def Has (its : List Od) (P : Nat → Prop) (n : Nat) (s1 s2 : Sd) : Prop :=
  (∀ x, x ∈ bookL s1.rs s2.rs ↔ ∃ j, P j ∧ x = oN its j ∧ goodO (oN its j) = true) ∧ (bookL s1.rs s2.rs).length ≤ n
theorem has_add {w w' : World} {p m n t : Nat} {s1 s2 s1' s2' : Sd} {its : List Od} {c : Int} {P : Nat → Prop} (h : Has its P n s1 s2) (k : AddIs w w' p m s1 s2 s1' s2' (oN its t) c) (hn : n < 64) : Has its (fun j => P j ∨ j = t) (n + 1) s1' s2' := by
  obtain ⟨h1, h2⟩ := h
  obtain ⟨k1, k2⟩ := add_mem k (fun x hx he => by
    obtain ⟨j, _, rfl, _⟩ := (h1 x).1 hx
    have : (j : Int) = (t : Int) := he
    have : j = t := by omega
    rw [this]) (by omega)
  refine ⟨fun x => ?_, by omega⟩
  rw [k1, h1]
  constructor
  · rintro (⟨j, hj, hx, hg⟩ | ⟨hx, hg⟩)
    · exact ⟨j, .inl hj, hx, hg⟩
    · exact ⟨t, .inr rfl, hx, hg⟩
  · rintro ⟨j, hj | hj, hx, hg⟩
    · exact .inl ⟨j, hj, hx, hg⟩
    · subst hj; exact .inr ⟨hx, hg⟩
/-- The places come all, in whatever turn. -/
theorem turn_all {n by' t : Nat} (ht : t < n) : ∃ i, i < n ∧ n - 1 - (i + by') % n = t := by
  refine ⟨(n - 1 - t + (n - by' % n)) % n, Nat.mod_lt _ (by omega), ?_⟩
  have h1 : by' % n < n := Nat.mod_lt _ (by omega)
  have h2 : ((n - 1 - t + (n - by' % n)) % n + by') % n = n - 1 - t := by
    rw [Nat.add_mod, Nat.mod_mod, ← Nat.add_mod, Nat.add_mod, ← Nat.add_mod]
    have : (n - 1 - t + (n - by' % n) + by') % n = (n - 1 - t + (n - by' % n) + by' % n) % n := by
      rw [Nat.add_mod, Nat.add_mod (n - 1 - t + (n - by' % n)) (by' % n), Nat.mod_mod]
    rw [this, show n - 1 - t + (n - by' % n) + by' % n = n - 1 - t + n by omega, Nat.add_mod_right, Nat.mod_eq_of_lt (by omega)]
  rw [h2]; omega
theorem has_same {w w' : World} {pa ma pb mb n by' : Nat} {a1 a2 b1 b2 : Sd} {its : List Od} (ha : Whole w pa ma a1 a2) (hb : Whole w' pb mb b1 b2) (h : Has its (fun j => j < n) n a1 a2) (k : Has its (fun t => ∃ i, i < n ∧ n - 1 - (i + by') % n = t) n b1 b2) : bookL b1.rs b2.rs = bookL a1.rs a2.rs := by
  refine uniq_mem hb.pw ha.pw (fun x => ?_)
  rw [h.1, k.1]
  constructor
  · rintro ⟨t, ⟨i, hi, rfl⟩, hx, hg⟩
    exact ⟨_, by have : 0 < n := by omega
                 omega, hx, hg⟩
  · rintro ⟨t, ht, hx, hg⟩
    exact ⟨t, turn_all ht, hx, hg⟩
end Go.Proofs.Ytemmbgbmkihbaaa

/- LadderOrder, walked. -/
namespace Go.Proofs.Ytemmbgbmkihbaaa
open Go.RowKit Go.Sort Go.Lib Go.Shelf

/-- At the start: two books made anew and the reference's. -/
theorem tri0 {w w1 w2 : World} (h1 : Bk w1 (some ⟨w.heap.size + 1, 0, none⟩) (some w.heap.size) nilS nilS ∧ Below w.heap.size w w1) (h2 : Bk w2 (some ⟨w1.heap.size + 1, 0, none⟩) (some w1.heap.size) nilS nilS ∧ Below w1.heap.size w1 w2) :
    Tri w (w2.alloc (.cells #[.slice none 0 0] 29)) (w.heap.size + 1) w.heap.size nilS nilS (w1.heap.size + 1) w1.heap.size nilS nilS w2.heap.size [] := by
  have b2 : Below w2.heap.size w2 (w2.alloc (.cells #[.slice none 0 0] 29)) := (Below.refl _ _).alloc (Nat.le_refl _) _
  have z1 : w.heap.size + 1 < w1.heap.size := h1.1.lt (.inl rfl)
  have z2 := h2.2.size
  refine ⟨(whole_new ((h1.1.below h2.2).below b2)), whole_new (h2.1.below b2), ⟨none, 0, hd_last rfl, World.ownsRow_nil _ _ _ _⟩, h1.2.trans ((h2.2.trans (b2.mono z2)).mono h1.2.size), fun k hk => ?_, fun k hk => ?_, by omega, fun k hk hk' => ?_⟩
  · rcases whole_foot hk with h | h <;> omega
  · rcases whole_foot hk with h | h <;> omega
  · rcases whole_foot hk with h | h <;> rcases whole_foot hk' with h' | h' <;> omega
theorem has_nil (its : List Od) : Has its (fun j => j < 0) 0 nilS nilS := by
  refine ⟨fun x => ⟨fun h => (by cases h), fun ⟨j, hj, _⟩ => absurd hj (Nat.not_lt_zero _)⟩, Nat.le_refl _⟩
theorem has_ext {its : List Od} {P Q : Nat → Prop} {n : Nat} {s1 s2 : Sd} (h : Has its P n s1 s2) (e : ∀ j, P j ↔ Q j) : Has its Q n s1 s2 := by
  rwa [show P = Q from funext fun j => propext (e j)] at h
/-- The box of an order outlives what a book's Add turns. -/
theorem box_add {w w' : World} {p m c : Nat} {s1 s2 s1' s2' : Sd} {o : Od} {r : Int} {cs : Array Value} (H : Whole w p m s1 s2) (k : AddIs w w' p m s1 s2 s1' s2' o r) (hlo : ∀ j, foot (some ⟨p, 0, none⟩) (some m) s1 s2 j → j ≠ c) (h : Cl 32 w c cs) : Cl 32 w' c cs :=
  (add_whole H k).2.1.blk h (fun e => hlo c e rfl)
/-- One order, added to the first book and to the reference's. -/
theorem step_a {w wr w3 w4 : World} {pa ma pb mb wb k : Nat} {s1 s2 t1 t2 b1 b2 : Sd} {its M : List Od} {c c' : Int} {o : Obj} (h : Tri w wr pa ma s1 s2 pb mb b1 b2 wb (bookL s1.rs s2.rs)) (hs : Has its (fun j => j < k) k s1 s2) (hk : k < 64)
    (ha : AddIs (wr.alloc o) w3 pa ma s1 s2 t1 t2 (oN its k) c) (hr : RAdd w3 w4 wb (bookL s1.rs s2.rs) M (oN its k) c') : Tri w w4 pa ma t1 t2 pb mb b1 b2 wb (bookL t1.rs t2.rs) ∧ Has its (fun j => j < k + 1) (k + 1) t1 t2 := by
  have h0 := h.below ((Below.refl _ _).alloc (Nat.le_refl _) o)
  obtain ⟨_, e⟩ := add_same ha hr rfl h.wa.len
  subst e
  exact ⟨(h0.addA ha).ref hr, has_ext (has_add hs ha hk) (fun j => by omega)⟩
theorem step_rb {w wr w3 : World} {pa ma pb mb wb k : Nat} {s1 s2 t1 t2 b1 b2 : Sd} {its : List Od} {c : Int} {o : Obj} (h : Tri w wr pa ma s1 s2 pb mb b1 b2 wb (bookL s1.rs s2.rs))
    (ha : AddIs (wr.alloc o) w3 pa ma s1 s2 t1 t2 (oN its k) c) : RB w3 wb (bookL s1.rs s2.rs) := ((h.below ((Below.refl _ _).alloc (Nat.le_refl _) o)).addA ha).rb
theorem step_box {w wr w3 : World} {pa ma pb mb wb k : Nat} {s1 s2 t1 t2 b1 b2 : Sd} {its M : List Od} {c : Int} {cs : Array Value} (h : Tri w wr pa ma s1 s2 pb mb b1 b2 wb M)
    (ha : AddIs (wr.alloc (.cells cs 32)) w3 pa ma s1 s2 t1 t2 (oN its k) c) : Cl 32 w3 wr.heap.size cs :=
  box_add (h.below ((Below.refl _ _).alloc (Nat.le_refl _) _)).wa ha (fun j hj => by have := h.wa.bk.lt hj; omega) (hd_last rfl)
/-- One order, added to the second book. -/
theorem step_b {w wr w3 : World} {pa ma pb mb wb k i by' t : Nat} {s1 s2 b1 b2 t1 t2 : Sd} {its M : List Od} {c : Int} {o : Obj} (h : Tri w wr pa ma s1 s2 pb mb b1 b2 wb M) (hs : Has its (fun t => ∃ j, j < i ∧ k - 1 - (j + by') % k = t) i b1 b2) (hi : i < 64) (ht : k - 1 - (i + by') % k = t)
    (ha : AddIs (wr.alloc o) w3 pb mb b1 b2 t1 t2 (oN its t) c) : Tri w w3 pa ma s1 s2 pb mb t1 t2 wb M ∧ Has its (fun t => ∃ j, j < i + 1 ∧ k - 1 - (j + by') % k = t) (i + 1) t1 t2 := by
  have h0 := h.below ((Below.refl _ _).alloc (Nat.le_refl _) o)
  refine ⟨h0.addB ha, has_ext (has_add hs ha hi) (fun j => ⟨?_, ?_⟩)⟩
  · rintro (⟨a, ha, e⟩ | rfl)
    · exact ⟨a, by omega, e⟩
    · exact ⟨i, by omega, ht⟩
  · rintro ⟨a, ha, e⟩
    by_cases hai : a = i
    · subst hai; exact .inr (e.symm.trans ht)
    · exact .inl ⟨a, by omega, e⟩
/-- All of a whole book, as a row of orders. -/
theorem all_in {W : World} {p m n : Nat} {s1 s2 : Sd} {L : List Od} (H : Whole W p m s1 s2) (hL : bookL s1.rs s2.rs = L) (hn : L.length = n) :
    Calls Try.prog 21 #[.pointer (some ⟨p, 0, none⟩)] W fun e w' => ∃ A c, e = .returned (.slice A n c) ∧ Hid (Below W.heap.size W w') ∧ Hid (Ods w' A n L) := by
  subst hL
  have hz := H.n1
  have hl := H.len
  refine (lAll_c _ _ s1 s2 W H.bk (by omega) (by omega) (by omega) H.ne).mono ?_
  rintro e w' ⟨v, rfl, h⟩
  rw [hn] at h
  obtain ⟨A, c, rfl, _, ho⟩ := own_ods h.out.1 (by omega) (fun x hx => (H.ok x hx).1)
  exact ⟨A, c, rfl, Lib.hid h.out.2, Lib.hid ho⟩
theorem same_in {W : World} {n : Nat} {A B : Option Addr} {c c' : Nat} {L : List Od} (h : Ods W A n L) (k : Ods W B n L) (hn : n ≤ 1000) :
    Calls Try.prog 20 #[.slice A n c, .slice B n c'] W fun e w' => e = .returned (.bool true) ∧ Hid (Below W.heap.size W w') := by
  refine (same_c A B n c c' L L W h k hn).mono ?_
  rintro e w' ⟨rfl, g⟩
  exact ⟨by rw [(eqL_iff L L).2 rfl], Lib.hid g.b⟩

set_option maxHeartbeats 8000000 in
set_option maxRecDepth 100000 in
theorem order_w (a0 : Option Addr) (len0 cap0 : Nat) (its : List Od) (by' : Nat) (w : World) (hO : Ods w a0 len0 its) (hby : by' ≤ 255) :
    Calls Try.prog 4 #[.slice a0 len0 cap0, .int .u8 (by' : Int)] w fun e w' => e = .returned (.bool true) ∧ Below w.heap.size w w' := by
  have mixed : Try.prog.follows .mixedOrders = true := by kernel_rfl
  have HL := Lib.hid lives13_c
  by_cases h64 : len0 ≤ 64
  case neg =>
    have hz : (64 : Int) < (len0 : Int) := by omega
    clear hO h64
    go_enter Try.func4, Try.ntmps4
    go_wp2_with ((with_reducible refine (HL.out _).mono ?_); rintro e w2 ⟨rfl, k2⟩; have G2 : Hid (Below w.heap.size w w2) := Lib.hid k2; clear k2)
    go_ret
    exact ⟨rfl, G2.out⟩
  have hz : ¬ (64 : Int) < (len0 : Int) := by omega
  have HN0 : Hid (its.length = len0) := hO.1
  have HO := Lib.hid hO
  have H64 := Lib.hid h64
  have HB := Lib.hid hby
  have HN := Lib.hid new_c
  clear hO h64 hby
  go_enter Try.func4, Try.ntmps4
  go_wp2_with (first | ((with_reducible refine (HN.out w).mono ?_); rintro e w1 ⟨rfl, hn1⟩) | ((with_reducible refine (HN.out _).mono ?_); rintro e w2 ⟨rfl, hn2⟩))
  obtain ⟨W0, eW0⟩ : ∃ W0, w2.alloc (.cells #[.slice none 0 0] 29) = W0 := ⟨_, rfl⟩
  obtain ⟨pa, epa⟩ : ∃ x, w.heap.size + 1 = x := ⟨_, rfl⟩
  obtain ⟨pb, epb⟩ : ∃ x, w1.heap.size + 1 = x := ⟨_, rfl⟩
  obtain ⟨wb, ewb⟩ : ∃ x, w2.heap.size = x := ⟨_, rfl⟩
  obtain ⟨ma, mb, T0⟩ : ∃ ma mb, Hid (Tri w W0 pa ma nilS nilS pb mb nilS nilS wb []) := by
    have h := tri0 hn1.out hn2.out
    rw [eW0, epa, epb, ewb] at h
    exact ⟨_, _, Lib.hid h⟩
  rw [eW0, epa, epb, ewb]
  clear eW0 epa epb ewb hn1 hn2 HN
  clear w1 w2
  go_loopw [27] (fun s wr => ∃ (k : Nat) (s1 s2 : Sd), s = .int .i64 (k : Int) ∧ Hid (k ≤ len0 ∧ Tri w wr pa ma s1 s2 pb mb nilS nilS wb (bookL s1.rs s2.rs) ∧ Has its (fun j => j < k) k s1 s2)) (fun s _ => match s with | .int _ z => len0 - z.toNat | _ => 0)
  case atStart => exact ⟨0, nilS, nilS, rfl, Nat.zero_le _, T0.out, has_nil its⟩
  case round =>
    clear T0
    obtain ⟨k, s1, s2, rfl, hd⟩ := hrel
    by_cases hk : k < len0
    · have hkI : (k : Int) < (len0 : Int) := by omega
      have h1 := (HO.out.below hd.out.2.1.be).2.2.2
      rcases h1 with h1 | ⟨b, off, rfl, _, hc⟩
      · omega
      have hx := hc k hk
      clear hc
      have HA : Hid (∀ W, Whole W pa ma s1 s2 → Calls Try.prog 17 #[.pointer (some ⟨pa, 0, none⟩), .agg #[.int .u64 (k : Int), .int .i64 (its[k]!).acc, .int .i64 (its[k]!).side, .int .i64 (its[k]!).price, .int .i64 (its[k]!).qty, .int .u64 (its[k]!).seq]] W fun e w' => ∃ c s1' s2', e = .returned (.int .i64 c) ∧ Hid (AddIs W w' pa ma s1 s2 s1' s2' (oN its k) c)) := fun W h => lAdd_c pa ma s1 s2 (oN its k) W h (oN_ok (w := W) HO.out.2.2.1 (by rw [HN0.out]; exact hk) (by rw [HN0.out]; exact H64.out))
      have HR : Hid (∀ W, RB W wb (bookL s1.rs s2.rs) → Calls Try.prog 18 #[.pointer (some ⟨wb, 0, none⟩), .agg #[.int .u64 (k : Int), .int .i64 (its[k]!).acc, .int .i64 (its[k]!).side, .int .i64 (its[k]!).price, .int .i64 (its[k]!).qty, .int .u64 (its[k]!).seq]] W fun e w' => ∃ c M', e = .returned (.int .i64 c) ∧ Hid (RAdd W w' wb (bookL s1.rs s2.rs) M' (oN its k) c)) := fun W h => rAdd_c wb (bookL s1.rs s2.rs) (oN its k) W h (by have := hd.out.2.1.wa.len; omega) (fun x hx => (hd.out.2.1.wa.ok x hx).1) (oN_ok (w := W) HO.out.2.2.1 (by rw [HN0.out]; exact hk) (by rw [HN0.out]; exact H64.out))
      obtain ⟨x, ex⟩ : ∃ x, its[k]! = x := ⟨_, rfl⟩
      rw [ex] at hx HA HR
      obtain ⟨x0, x1, x2, x3, x4, x5⟩ := hx
      have Hk := Lib.hid hk
      clear hk
      have HW := Lib.hid (hd.out.2.1.below ((Below.refl _ _).alloc (Nat.le_refl _) (.cells (OC ⟨(k : Int), x.acc, x.side, x.price, x.qty, x.seq⟩) 32))).wa
      go_wp2_with (first | ((with_reducible refine (HA.out _ HW.out).mono ?_); rintro e w3 ⟨cc, t1, t2, rfl, ha⟩; have HX := Lib.hid (step_rb hd.out.2.1 ha.out); obtain ⟨y0, y1, y2, y3, y4, y5⟩ := six_of (o := ⟨(k : Int), x.acc, x.side, x.price, x.qty, x.seq⟩) (step_box hd.out.2.1 ha.out); clear HA HW x0 x1 x2 x3 x4 x5) | ((with_reducible refine (HR.out _ HX.out).mono ?_); rintro e w4 ⟨cc', M', rfl, hr⟩))
      have Hs := step_a hd.out.2.1 hd.out.2.2 (Nat.lt_of_lt_of_le Hk.out H64.out) ha.out hr.out
      exact ⟨⟨k + 1, t1, t2, rfl, Hk.out, Hs.1, Hs.2⟩, less_left Hk.out⟩
    · obtain rfl : k = len0 := by have := hd.out.1; omega
      have hkI : ¬ (k : Int) < (k : Int) := by omega
      have HA1 := hd.out.2.2
      have HT := hd.out.2.1
      clear hd hk
      go_wp2_with fail
      go_loopw [43] (fun s wr => ∃ (i : Nat) (t1 t2 : Sd), s = .int .i64 (i : Int) ∧ Hid (i ≤ k ∧ Tri w wr pa ma s1 s2 pb mb t1 t2 wb (bookL s1.rs s2.rs) ∧ Has its (fun t => ∃ j, j < i ∧ k - 1 - (j + by') % k = t) i t1 t2)) (fun s _ => match s with | .int _ z => k - z.toNat | _ => 0)
      case atStart => exact ⟨0, nilS, nilS, rfl, Nat.zero_le _, HT, has_ext (has_nil its) (fun j => ⟨fun h => absurd h (Nat.not_lt_zero _), fun ⟨_, h, _⟩ => absurd h (Nat.not_lt_zero _)⟩)⟩
      case round =>
        clear HT
        obtain ⟨i, t1, t2, rfl, hd⟩ := hrel
        by_cases hk : i < k
        · have hkI : (i : Int) < (k : Int) := by omega
          have h1 := (HO.out.below hd.out.2.1.be).2.2.2
          rcases h1 with h1 | ⟨b, off, rfl, _, hc⟩
          · omega
          have hby := HB.out
          have h64 := H64.out
          obtain ⟨q, hq⟩ : ∃ q, (i + by') % k = q := ⟨_, rfl⟩
          have e1 : ((i : Int) + (by' : Int)) % (k : Int) = (q : Int) := by rw [← hq, Int.natCast_emod, Int.natCast_add]
          have hqk : q < k := by rw [← hq]; exact Nat.mod_lt _ (by omega)
          obtain ⟨t, ht⟩ : ∃ t, k - 1 - q = t := ⟨_, rfl⟩
          have htk : t < k := by omega
          have e2 : wrap64 ((k : Int) - 1 - (q : Int)) = (t : Int) := by simp only [wrap64]; omega
          have htI : (t : Int) < (k : Int) := by omega
          have hx := hc t htk
          have Hk := Lib.hid hk
          have HQ : Hid (k - 1 - (i + by') % k = t) := by rw [hq]; exact ht
          clear hc hk hqk ht htk
          have HA : Hid (∀ W, Whole W pb mb t1 t2 → Calls Try.prog 17 #[.pointer (some ⟨pb, 0, none⟩), .agg #[.int .u64 (t : Int), .int .i64 (its[t]!).acc, .int .i64 (its[t]!).side, .int .i64 (its[t]!).price, .int .i64 (its[t]!).qty, .int .u64 (its[t]!).seq]] W fun e w' => ∃ c s1' s2', e = .returned (.int .i64 c) ∧ Hid (AddIs W w' pb mb t1 t2 s1' s2' (oN its t) c)) := fun W h => lAdd_c pb mb t1 t2 (oN its t) W h (oN_ok (w := W) HO.out.2.2.1 (by rw [HN0.out]; omega) (by rw [HN0.out]; exact H64.out))
          obtain ⟨x, ex⟩ : ∃ x, its[t]! = x := ⟨_, rfl⟩
          rw [ex] at hx HA
          obtain ⟨x0, x1, x2, x3, x4, x5⟩ := hx
          have HW := Lib.hid (hd.out.2.1.below ((Below.refl _ _).alloc (Nat.le_refl _) (.cells (OC ⟨(t : Int), x.acc, x.side, x.price, x.qty, x.seq⟩) 32))).wv
          go_wp2_with ((with_reducible refine (HA.out _ HW.out).mono ?_); rintro e w3 ⟨cc, u1, u2, rfl, ha⟩)
          have Hs := step_b hd.out.2.1 hd.out.2.2 (Nat.lt_of_lt_of_le Hk.out H64.out) HQ.out ha.out
          exact ⟨⟨i + 1, u1, u2, rfl, Hk.out, Hs.1, Hs.2⟩, less_left Hk.out⟩
        · obtain rfl : i = k := by have := hd.out.1; omega
          have hkI : ¬ (i : Int) < (i : Int) := by omega
          have HBe := Lib.hid hd.out.2.1.be
          obtain ⟨L, hL⟩ : ∃ L, bookL s1.rs s2.rs = L := ⟨_, rfl⟩
          obtain ⟨n, hn⟩ : ∃ n, L.length = n := ⟨_, rfl⟩
          have hLb : bookL t1.rs t2.rs = L := (has_same hd.out.2.1.wa hd.out.2.1.wv HA1 hd.out.2.2).trans hL
          have hn64 : n ≤ 64 := by have := hd.out.2.1.wa.len; rw [hL, hn] at this; exact this
          have HAllA : Hid (∀ W, Below wr.heap.size wr W → Calls Try.prog 21 #[.pointer (some ⟨pa, 0, none⟩)] W fun e w' => ∃ A c, e = .returned (.slice A n c) ∧ Hid (Below W.heap.size W w') ∧ Hid (Ods w' A n L)) := fun W hW => all_in (hd.out.2.1.wa.below hW) hL hn
          have HAllB : Hid (∀ W, Below wr.heap.size wr W → Calls Try.prog 21 #[.pointer (some ⟨pb, 0, none⟩)] W fun e w' => ∃ A c, e = .returned (.slice A n c) ∧ Hid (Below W.heap.size W w') ∧ Hid (Ods w' A n L)) := fun W hW => all_in (hd.out.2.1.wv.below hW) hLb hn
          have HSame : Hid (∀ W A B c c', Ods W A n L → Ods W B n L → Calls Try.prog 20 #[.slice A n c, .slice B n c'] W fun e w' => e = .returned (.bool true) ∧ Hid (Below W.heap.size W w')) := fun W A B c c' h k => same_in h k (by omega)
          obtain ⟨AM, cM, hcl, how⟩ := hd.out.2.1.rb
          rw [hL, hn] at how
          obtain ⟨_, _, e, _, hor⟩ := own_ods how (by omega) (fun x hx => by rw [← hL] at hx; exact (hd.out.2.1.wa.ok x hx).1)
          injection e with e _ e'
          subst e e'
          rw [hL, hn] at hcl
          have HRow : Hid (∀ W, Below wr.heap.size wr W → Ods W AM n L) := fun W hW => hor.below hW
          have HCell : Hid (∀ W, Below wr.heap.size wr W → W.cell? ⟨wb, 0, none⟩ = some (.slice AM n cM)) := fun W hW => (Cl.c (T := 29) ((hW.block _ (blk_lt hcl)).trans hcl) 0).trans rfl
          clear hd hk how hcl hor
          go_wp2_with fail
          --R0
          refine wp_region_held_drew (S := fun W => Below wr.heap.size wr W) (by kernel_rfl) (by exact (Below.refl _ _).drew) (fun hHeld => ?_)
          refine wpAnyH_take (i := 0) (oi := ⟨some 72, _, _, _, _, _⟩) (v := ?_) rfl (by kernel_rfl) (by kernel_rfl) (by kernel_rfl) (fun _ _ _ h => h) (Or.inl ⟨by kernel_rfl, ?_⟩) (by assumption) ?_
          rotate_left
          · (intro w hSw; (try dsimp only at hSw); go_simp; try with_reducible rfl)
          (repeat (first | simp only [Act.put] | simp only [List.setIfInBounds_toArray] | simp only [List.set_cons_succ] | simp only [List.set_cons_zero]))
          refine wpAnyH_take (i := 2) (oi := ⟨some 74, _, _, _, _, _⟩) (v := ?_) rfl (by kernel_rfl) (by kernel_rfl) (by kernel_rfl) (fun _ _ _ h => h) (Or.inl ⟨by kernel_rfl, ?_⟩) (by assumption) ?_
          rotate_left
          · (intro w hSw; (try dsimp only at hSw); go_simp; try with_reducible rfl)
          (repeat (first | simp only [Act.put] | simp only [List.setIfInBounds_toArray] | simp only [List.set_cons_succ] | simp only [List.set_cons_zero]))
          refine wpAnyH_take (i := 3) (oi := ⟨some 75, _, _, _, _, _⟩) (v := ?_) rfl (by kernel_rfl) (by kernel_rfl) (by kernel_rfl) (fun _ _ _ h => h) (Or.inl ⟨by kernel_rfl, ?_⟩) (by assumption) ?_
          rotate_left
          · (intro w hSw; have hs := HCell.out _ hSw; (try dsimp only at hSw); go_simp; try with_reducible rfl)
          (repeat (first | simp only [Act.put] | simp only [List.setIfInBounds_toArray] | simp only [List.set_cons_succ] | simp only [List.set_cons_zero]))
          refine wpAnyH_ready (rs := [1]) (by kernel_rfl) (by simp) ?_
          refine AllReadyH.cons (o := ⟨some 73, _, _, _, _, _⟩) rfl (fun K hK => ?_) AllReadyH.nil
          go_simp
          ((with_reducible refine (HAllA.out _ hHeld).mono ?_); rintro e y1 ⟨A1, c1, rfl, hb, ho1⟩)
          refine hK.out _ _ (by exact hHeld.trans (hb.out.mono hHeld.size)) (fun hHeld => ?_)
          clear hK K
          (repeat (first | simp only [Act.put] | simp only [List.setIfInBounds_toArray] | simp only [List.set_cons_succ] | simp only [List.set_cons_zero]))
          refine wpAnyH_ready (rs := [4]) (by kernel_rfl) (by simp) ?_
          refine AllReadyH.cons (o := ⟨some 76, _, _, _, _, _⟩) rfl (fun K hK => ?_) AllReadyH.nil
          go_simp
          ((with_reducible refine (HSame.out _ _ _ _ _ (ho1.out.below (Below.refl _ _)) (HRow.out _ hHeld)).mono ?_); rintro e y2 ⟨rfl, hb⟩)
          refine hK.out _ _ (by exact hHeld.trans (hb.out.mono hHeld.size)) (fun hHeld => ?_)
          clear hK K
          (repeat (first | simp only [Act.put] | simp only [List.setIfInBounds_toArray] | simp only [List.set_cons_succ] | simp only [List.set_cons_zero]))
          refine wpAnyH_take (i := 5) (oi := ⟨some 77, _, _, _, _, _⟩) (v := ?_) rfl (by kernel_rfl) (by kernel_rfl) (by kernel_rfl) (fun _ _ _ h => h) (Or.inl ⟨by kernel_rfl, ?_⟩) (by assumption) ?_
          rotate_left
          · (intro w hSw; (try dsimp only at hSw); go_simp; try with_reducible rfl)
          (repeat (first | simp only [Act.put] | simp only [List.setIfInBounds_toArray] | simp only [List.set_cons_succ] | simp only [List.set_cons_zero]))
          refine wpAnyH_take (i := 6) (oi := ⟨some 78, _, _, _, _, _⟩) (v := ?_) rfl (by kernel_rfl) (by kernel_rfl) (by kernel_rfl) (fun _ _ _ h => h) (Or.inl ⟨by kernel_rfl, ?_⟩) (by assumption) ?_
          rotate_left
          · (intro w hSw; (try dsimp only at hSw); go_simp; try with_reducible rfl)
          (repeat (first | simp only [Act.put] | simp only [List.setIfInBounds_toArray] | simp only [List.set_cons_succ] | simp only [List.set_cons_zero]))
          refine wpAnyH_take (i := 8) (oi := ⟨some 80, _, _, _, _, _⟩) (v := ?_) rfl (by kernel_rfl) (by kernel_rfl) (by kernel_rfl) (fun _ _ _ h => h) (Or.inl ⟨by kernel_rfl, ?_⟩) (by assumption) ?_
          rotate_left
          · (intro w hSw; (try dsimp only at hSw); go_simp; try with_reducible rfl)
          (repeat (first | simp only [Act.put] | simp only [List.setIfInBounds_toArray] | simp only [List.set_cons_succ] | simp only [List.set_cons_zero]))
          refine wpAnyH_take (i := 9) (oi := ⟨some 81, _, _, _, _, _⟩) (v := ?_) rfl (by kernel_rfl) (by kernel_rfl) (by kernel_rfl) (fun _ _ _ h => h) (Or.inl ⟨by kernel_rfl, ?_⟩) (by assumption) ?_
          rotate_left
          · (intro w hSw; have hs := HCell.out _ hSw; (try dsimp only at hSw); go_simp; try with_reducible rfl)
          (repeat (first | simp only [Act.put] | simp only [List.setIfInBounds_toArray] | simp only [List.set_cons_succ] | simp only [List.set_cons_zero]))
          refine wpAnyH_ready (rs := [7]) (by kernel_rfl) (by simp) ?_
          refine AllReadyH.cons (o := ⟨some 79, _, _, _, _, _⟩) rfl (fun K hK => ?_) AllReadyH.nil
          go_simp
          ((with_reducible refine (HAllB.out _ hHeld).mono ?_); rintro e y3 ⟨A3, c3, rfl, hb, ho3⟩)
          refine hK.out _ _ (by exact hHeld.trans (hb.out.mono hHeld.size)) (fun hHeld => ?_)
          clear hK K
          (repeat (first | simp only [Act.put] | simp only [List.setIfInBounds_toArray] | simp only [List.set_cons_succ] | simp only [List.set_cons_zero]))
          refine wpAnyH_ready (rs := [10]) (by kernel_rfl) (by simp) ?_
          refine AllReadyH.cons (o := ⟨some 82, _, _, _, _, _⟩) rfl (fun K hK => ?_) AllReadyH.nil
          go_simp
          ((with_reducible refine (HSame.out _ _ _ _ _ (ho3.out.below (Below.refl _ _)) (HRow.out _ hHeld)).mono ?_); rintro e y4 ⟨rfl, hb⟩)
          refine hK.out _ _ (by exact hHeld.trans (hb.out.mono hHeld.size)) (fun hHeld => ?_)
          clear hK K
          (repeat (first | simp only [Act.put] | simp only [List.setIfInBounds_toArray] | simp only [List.set_cons_succ] | simp only [List.set_cons_zero]))
          refine wpAnyH_take (i := 11) (oi := ⟨some 83, _, _, _, _, _⟩) (v := ?_) rfl (by kernel_rfl) (by kernel_rfl) (by kernel_rfl) (fun _ _ _ h => h) (Or.inl ⟨by kernel_rfl, ?_⟩) (by assumption) ?_
          rotate_left
          · (intro w hSw; (try dsimp only at hSw); go_simp; try with_reducible rfl)
          (repeat (first | simp only [Act.put] | simp only [List.setIfInBounds_toArray] | simp only [List.set_cons_succ] | simp only [List.set_cons_zero]))
          refine wpAnyH_take (i := 12) (oi := ⟨some 84, _, _, _, _, _⟩) (v := ?_) rfl (by kernel_rfl) (by kernel_rfl) (by kernel_rfl) (fun _ _ _ h => h) (Or.inl ⟨by kernel_rfl, ?_⟩) (by assumption) ?_
          rotate_left
          · (intro w hSw; (try dsimp only at hSw); go_simp; try with_reducible rfl)
          (repeat (first | simp only [Act.put] | simp only [List.setIfInBounds_toArray] | simp only [List.set_cons_succ] | simp only [List.set_cons_zero]))
          refine wpAnyH_ready (rs := [13]) (by kernel_rfl) (by simp) ?_
          refine AllReadyH.cons (o := ⟨some 85, _, _, _, _, _⟩) rfl (fun K hK => ?_) AllReadyH.nil
          go_simp
          ((with_reducible refine (HL.out _).mono ?_); rintro e y5 ⟨rfl, hb'⟩; have hb := Lib.hid hb'; clear hb')
          refine hK.out _ _ (by exact hHeld.trans (hb.out.mono hHeld.size)) (fun hHeld => ?_)
          clear hK K
          (repeat (first | simp only [Act.put] | simp only [List.setIfInBounds_toArray] | simp only [List.set_cons_succ] | simp only [List.set_cons_zero]))
          refine wpAnyH_take (i := 14) (oi := ⟨some 86, _, _, _, _, _⟩) (v := ?_) rfl (by kernel_rfl) (by kernel_rfl) (by kernel_rfl) (fun _ _ _ h => h) (Or.inl ⟨by kernel_rfl, ?_⟩) (by assumption) ?_
          rotate_left
          · (intro w hSw; (try dsimp only at hSw); go_simp; try with_reducible rfl)
          (repeat (first | simp only [Act.put] | simp only [List.setIfInBounds_toArray] | simp only [List.set_cons_succ] | simp only [List.set_cons_zero]))
          refine wpAnyH_take (i := 15) (oi := ⟨some 4, _, _, _, _, _⟩) (v := ?_) rfl (by kernel_rfl) (by kernel_rfl) (by kernel_rfl) (fun _ _ _ h => h) (Or.inl ⟨by kernel_rfl, ?_⟩) (by assumption) ?_
          rotate_left
          · (intro w hSw; (try dsimp only at hSw); go_simp; try with_reducible rfl)
          (repeat (first | simp only [Act.put] | simp only [List.setIfInBounds_toArray] | simp only [List.set_cons_succ] | simp only [List.set_cons_zero]))
          refine wpAnyH_done (by kernel_rfl) ?_ _
          --R1
          go_wp2_with fail
          go_ret
          exact ⟨rfl, HBe.out.trans (hHeld.mono HBe.out.size)⟩
end Go.Proofs.Ytemmbgbmkihbaaa
