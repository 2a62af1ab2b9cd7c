/- own: the law's Plain and Same; IndexFunc; Run. (By mkowb.py.) -/
import Derived.Test.YtjfpbphdhgkccaaOwA
import Derived.Sort.Grow
import Derived.Maps.AppendAt
import Derived.Laws.StructEq
namespace Go.Proofs.Ytjfpbphdhgkccaa
open Go.RowKit Go.Lib Go.Sort
set_option linter.unusedVariables false

/-- What a call leaves that only makes memory, and draws. -/
structure Gw (w w' : World) : Prop where
  b : Below w.heap.size w w'
  d : w.drawn ≤ w'.drawn
theorem Gw.refl (w : World) : Gw w w := ⟨Below.refl _ _, Nat.le_refl _⟩
theorem Gw.trans {a b c : World} (h : Gw a b) (k : Gw b c) : Gw a c := ⟨h.b.trans (k.b.mono h.b.size), Nat.le_trans h.d k.d⟩
theorem Gw.alloc {a b : World} (h : Gw a b) (o : Obj) : Gw a (b.alloc o) := ⟨h.b.alloc h.b.size o, h.d⟩

/-! Two orders held against each other. -/
theorem eqf {P : Program} (w : World) (d : Nat) (xs ys : Array Value) (fs : List Field) (hn : ∀ f ∈ fs, f.name ≠ "_") (E : Field → Bool)
    (h : ∀ f ∈ fs, ∃ a b, (part f.type xs f.offset).run P w = .ok a w ∧ (part f.type ys f.offset).run P w = .ok b w ∧ (Op.equalIn d f.type a b).run P w = .ok (E f) w) :
    (Op.eqFields d xs ys fs).run P w = .ok (fs.all E) w := by
  induction fs with
  | nil => simp [Op.eqFields]
  | cons f fs ih =>
    obtain ⟨a, b, h1, h2, h3⟩ := h f List.mem_cons_self
    have ih' := ih (fun g hg => hn g (List.mem_cons_of_mem _ hg)) (fun g hg => h g (List.mem_cons_of_mem _ hg))
    simp only [Op.eqFields]
    rw [if_pos (hn f List.mem_cons_self)]
    simp only [Sem.run_bind, h1, h2, h3, Result.andThen_ok, Sem.run_ite, List.all_cons]
    cases hE : E f
    · simp
    · simpa using ih'
def fld (x : Od) : Nat → Int
  | 0 => x.id | 1 => x.acc | 2 => x.side | 3 => x.price | 4 => x.qty | _ => x.seq
def eqO (x y : Od) : Bool := [0, 1, 2, 3, 4, 5].all fun i => fld x i == fld y i
theorem eqO_iff (x y : Od) : eqO x y = true ↔ x = y := by
  unfold eqO
  simp only [List.all_cons, List.all_nil, Bool.and_true, Bool.and_eq_true, beq_iff_eq, fld]
  constructor
  · rintro ⟨h0, h1, h2, h3, h4, h5⟩
    cases x; cases y; simp only at *; subst h0 h1 h2 h3 h4 h5; rfl
  · rintro rfl; simp
abbrev OC (x : Od) : Array Value := #[.int .u64 x.id, .int .i64 x.acc, .int .i64 x.side, .int .i64 x.price, .int .i64 x.qty, .int .u64 x.seq]
theorem ptP0 (x : Od) (w : World) : (part 33 (OC x) 0).run Try.prog w = .ok (.int .u64 (fld x 0)) w := by kernel_rfl
theorem ptP1 (x : Od) (w : World) : (part 3 (OC x) 1).run Try.prog w = .ok (.int .i64 (fld x 1)) w := by kernel_rfl
theorem ptP2 (x : Od) (w : World) : (part 3 (OC x) 2).run Try.prog w = .ok (.int .i64 (fld x 2)) w := by kernel_rfl
theorem ptP3 (x : Od) (w : World) : (part 2 (OC x) 3).run Try.prog w = .ok (.int .i64 (fld x 3)) w := by kernel_rfl
theorem ptP4 (x : Od) (w : World) : (part 2 (OC x) 4).run Try.prog w = .ok (.int .i64 (fld x 4)) w := by kernel_rfl
theorem ptP5 (x : Od) (w : World) : (part 33 (OC x) 5).run Try.prog w = .ok (.int .u64 (fld x 5)) w := by kernel_rfl
theorem eq_ordP (x y : Od) (w : World) : (Op.equalIn 10000 35 (.agg (OC x)) (.agg (OC y))).run Try.prog w = .ok (eqO x y) w := by
  rw [run_equalIn_agg w 9999 35 _ _ (by unfold Program.fieldsOf; rw [Try.underlying35]) (by kernel_rfl)]
  have h1 : ∀ (a b : Int) (w : World), (Op.equalIn 9999 33 (.int .u64 a) (.int .u64 b)).run Try.prog w = .ok (a == b) w := fun a b w => run_equalIn_int w 9998 _ _ _ a b Try.underlying33
  have h2 : ∀ (a b : Int) (w : World), (Op.equalIn 9999 2 (.int .i64 a) (.int .i64 b)).run Try.prog w = .ok (a == b) w := fun a b w => run_equalIn_int w 9998 _ _ _ a b Try.underlying2
  have h3 : ∀ (a b : Int) (w : World), (Op.equalIn 9999 3 (.int .i64 a) (.int .i64 b)).run Try.prog w = .ok (a == b) w := fun a b w => run_equalIn_int w 9998 _ _ _ a b Try.underlying3
  unfold Program.fieldsOf
  rw [Try.underlying35]
  refine (eqf w 9999 _ _ _ ?_ (fun f => fld x f.offset == fld y f.offset) ?_).trans rfl
  · intro f hf
    simp only [List.mem_cons, List.not_mem_nil, or_false] at hf
    rcases hf with rfl | rfl | rfl | rfl | rfl | rfl <;> decide
  · intro f hf
    simp only [List.mem_cons, List.not_mem_nil, or_false] at hf
    rcases hf with rfl | rfl | rfl | rfl | rfl | rfl
    · exact ⟨_, _, ptP0 x w, ptP0 y w, h1 _ _ _⟩
    · exact ⟨_, _, ptP1 x w, ptP1 y w, h3 _ _ _⟩
    · exact ⟨_, _, ptP2 x w, ptP2 y w, h3 _ _ _⟩
    · exact ⟨_, _, ptP3 x w, ptP3 y w, h2 _ _ _⟩
    · exact ⟨_, _, ptP4 x w, ptP4 y w, h2 _ _ _⟩
    · exact ⟨_, _, ptP5 x w, ptP5 y w, h1 _ _ _⟩
theorem neqP (x y : Od) (w : World) : (binOp .neq 35 (.agg (OC x)) (.agg (OC y))).run Try.prog w = .ok (.bool (!eqO x y)) w := by
  rw [run_neq_struct, eq_ordP]; rfl
theorem ptR0 (x : Od) (w : World) : (part 33 (OC x) 0).run Try.prog w = .ok (.int .u64 (fld x 0)) w := by kernel_rfl
theorem ptR1 (x : Od) (w : World) : (part 3 (OC x) 1).run Try.prog w = .ok (.int .i64 (fld x 1)) w := by kernel_rfl
theorem ptR2 (x : Od) (w : World) : (part 3 (OC x) 2).run Try.prog w = .ok (.int .i64 (fld x 2)) w := by kernel_rfl
theorem ptR3 (x : Od) (w : World) : (part 2 (OC x) 3).run Try.prog w = .ok (.int .i64 (fld x 3)) w := by kernel_rfl
theorem ptR4 (x : Od) (w : World) : (part 2 (OC x) 4).run Try.prog w = .ok (.int .i64 (fld x 4)) w := by kernel_rfl
theorem ptR5 (x : Od) (w : World) : (part 33 (OC x) 5).run Try.prog w = .ok (.int .u64 (fld x 5)) w := by kernel_rfl
theorem eq_ordR (x y : Od) (w : World) : (Op.equalIn 10000 41 (.agg (OC x)) (.agg (OC y))).run Try.prog w = .ok (eqO x y) w := by
  rw [run_equalIn_agg w 9999 41 _ _ (by unfold Program.fieldsOf; rw [Try.underlying41]) (by kernel_rfl)]
  have h1 : ∀ (a b : Int) (w : World), (Op.equalIn 9999 33 (.int .u64 a) (.int .u64 b)).run Try.prog w = .ok (a == b) w := fun a b w => run_equalIn_int w 9998 _ _ _ a b Try.underlying33
  have h2 : ∀ (a b : Int) (w : World), (Op.equalIn 9999 2 (.int .i64 a) (.int .i64 b)).run Try.prog w = .ok (a == b) w := fun a b w => run_equalIn_int w 9998 _ _ _ a b Try.underlying2
  have h3 : ∀ (a b : Int) (w : World), (Op.equalIn 9999 3 (.int .i64 a) (.int .i64 b)).run Try.prog w = .ok (a == b) w := fun a b w => run_equalIn_int w 9998 _ _ _ a b Try.underlying3
  unfold Program.fieldsOf
  rw [Try.underlying41]
  refine (eqf w 9999 _ _ _ ?_ (fun f => fld x f.offset == fld y f.offset) ?_).trans rfl
  · intro f hf
    simp only [List.mem_cons, List.not_mem_nil, or_false] at hf
    rcases hf with rfl | rfl | rfl | rfl | rfl | rfl <;> decide
  · intro f hf
    simp only [List.mem_cons, List.not_mem_nil, or_false] at hf
    rcases hf with rfl | rfl | rfl | rfl | rfl | rfl
    · exact ⟨_, _, ptR0 x w, ptR0 y w, h1 _ _ _⟩
    · exact ⟨_, _, ptR1 x w, ptR1 y w, h3 _ _ _⟩
    · exact ⟨_, _, ptR2 x w, ptR2 y w, h3 _ _ _⟩
    · exact ⟨_, _, ptR3 x w, ptR3 y w, h2 _ _ _⟩
    · exact ⟨_, _, ptR4 x w, ptR4 y w, h2 _ _ _⟩
    · exact ⟨_, _, ptR5 x w, ptR5 y w, h1 _ _ _⟩
theorem neqR (x y : Od) (w : World) : (binOp .neq 41 (.agg (OC x)) (.agg (OC y))).run Try.prog w = .ok (.bool (!eqO x y)) w := by
  rw [run_neq_struct, eq_ordR]; rfl
/-- An order's cells. -/
def encO (x : Od) : List Value := [.int .u64 x.id, .int .i64 x.acc, .int .i64 x.side, .int .i64 x.price, .int .i64 x.qty, .int .u64 x.seq]
abbrev Dd := Od × Nat
def encD (x : Dd) : List Value := encO x.1
theorem encD_len (x : Dd) : (encD x).length = 6 := rfl
theorem encD_one (x : Dd) : ∀ v ∈ encD x, v.oneCell' = true := by
  intro v hv
  simp only [encD, encO, List.mem_cons, List.not_mem_nil, or_false] at hv
  rcases hv with rfl | rfl | rfl | rfl | rfl | rfl <;> rfl
def ol (L : List Od) : List Value := L.flatMap encO
theorem ol_len (L : List Od) : (ol L).length = L.length * 6 := by
  induction L with
  | nil => rfl
  | cons x l ih => rw [ol, List.flatMap_cons, List.length_append, ← ol, ih, List.length_cons]; show 6 + _ = _; omega
theorem ol_get : ∀ (L : List Od) (i c : Nat), i < L.length → c < 6 → (ol L)[i * 6 + c]? = (encO L[i]!)[c]?
  | [], i, c, hi, _ => by simp at hi
  | x :: l, 0, c, _, hc => by
    rw [ol, List.flatMap_cons, List.getElem?_append_left (by show _ < 6; omega), Nat.zero_mul, Nat.zero_add]; rfl
  | x :: l, i + 1, c, hi, hc => by
    rw [ol, List.flatMap_cons, List.getElem?_append_right (by show 6 ≤ _; omega), ← ol]
    have : (i + 1) * 6 + c - (encO x).length = i * 6 + c := by show _ - 6 = _; omega
    rw [this, ol_get l i c (by simpa using hi) hc]
    rfl
/-- The capacity; of nil: none. -/
def CapOk (A : Option Addr) (n c : Nat) : Prop := n ≤ c ∧ (A = none → c = 0)
/-- A row of the call's own reads as orders. -/
theorem own_ods {w : World} {base n : Nat} {T : TypeId} {v : Value} {L : List Od} (h : w.ownsRow base T 6 v n (ol L)) (hn : n ≤ 1000) (hok : ∀ x ∈ L, Od.ok w x) : ∃ A c, v = .slice A n c ∧ CapOk A n c ∧ Ods w A n L := by
  obtain ⟨h1, h2⟩ := h
  rw [ol_len] at h1
  have hl : L.length = n := by omega
  rcases h2 with ⟨hv, h0⟩ | ⟨k, cap, cur, hv, _, hk, hc, hm, hs, ht⟩
  · subst h0; exact ⟨none, 0, hv, ⟨Nat.le_refl _, fun _ => rfl⟩, hl, by omega, hok, .inl rfl⟩
  · refine ⟨_, _, hv, ⟨hc, fun h => by cases h⟩, hl, by omega, hok, .inr ⟨k, 0, rfl, blk_lt hk, fun i hi => ?_⟩⟩
    have hcell : ∀ j v, (ol L)[j]? = some v → w.cell? ⟨k, 0 + j, none⟩ = some v := by
      intro j v hj
      rw [← ht, List.getElem?_take] at hj
      split at hj
      · rw [Array.getElem?_toList] at hj
        rw [Nat.zero_add, cell_of_row _ _ _ _ _ _ hk, hj]
      · cases hj
    have g : ∀ c v, c < 6 → (encO L[i]!)[c]? = some v → w.cell? ⟨k, 0 + i * 6 + c, none⟩ = some v := fun c v hc hv => by
      rw [Nat.add_assoc]
      exact hcell (i * 6 + c) v ((ol_get L i c (by omega) hc).trans hv)
    exact ⟨g 0 _ (by omega) rfl, g 1 _ (by omega) rfl, g 2 _ (by omega) rfl, g 3 _ (by omega) rfl, g 4 _ (by omega) rfl, g 5 _ (by omega) rfl⟩
theorem ol_snoc {L : List Od} {k : Nat} (h : k < L.length) : ol (L.take (k + 1)) = ol (L.take k) ++ encO L[k]! := by
  unfold ol
  rw [List.take_succ_eq_append_getElem h, List.flatMap_append, getElem!_pos L k h]
  simp
theorem six_news (w : World) (x : Od) : ∀ (j : Nat) (u : Value), (encO x)[j]? = some u → (w.alloc (Obj.cells (OC x) 41)).cell? ((⟨w.heap.size, 0, none⟩ : Addr).add j) = some u := by
  intro j u hu
  rw [addr_add, cell_of_row _ _ _ _ _ _ (heap_alloc_new w _)]
  match j, hu with
  | 0, hu => simpa [encO] using hu
  | 1, hu => simpa [encO] using hu
  | 2, hu => simpa [encO] using hu
  | 3, hu => simpa [encO] using hu
  | 4, hu => simpa [encO] using hu
  | 5, hu => simpa [encO] using hu
theorem info_ro : (Try.prog.info? 41).map (fun i => (i.zero, i.size, i.bytes)) = some (some (.agg (OC ⟨0, 0, 0, 0, 0, 0⟩)), 6, 48) := by kernel_rfl
theorem enc_one (x : Od) : ∀ u ∈ encO x, u.oneCell' = true := fun u hu => encD_one (x, 0) u hu

/-- Orders that came back in a row of their own. -/
def RowIs (w : World) (L : List Od) (e : Ending) (w' : World) : Prop := ∃ A n c, e = .returned (.slice A n c) ∧ Hid (Below w.heap.size w w' ∧ Ods w' A n L ∧ CapOk A n c)

set_option maxHeartbeats 4000000 in
set_option maxRecDepth 1000000 in
theorem plain_c (A : Option Addr) (n c : Nat) (L : List Od) (w : World) (H : Ods w A n L) (hn : n ≤ 1000) :
    Calls Try.prog 6 #[.slice A n c] w (RowIs w L) := by
  obtain ⟨i0, hi0, hz0, hz1, hz2⟩ := info_parts info_ro
  have HO : Aside (Ods w A n L) := H
  have HLn := Lib.hid H.1
  clear H
  go_enter Try.func6, Try.ntmps6
  go_wp2_with fail
  go_loopg [3, 8] n (fun kx v s8 wr => ∃ k : Nat, s8 = .int .i64 k ∧ k ≤ n ∧ n - k ≤ kx ∧ wr.ownsRow w.heap.size 41 6 v k (ol (L.take k)) ∧ Hid (Below w.heap.size w wr))
  case atStart => exact ⟨0, rfl, by omega, by omega, World.ownsRow_nil _ _ _ _, Below.refl _ _⟩
  case round =>
    obtain ⟨k, rfl, hk, hkx, hown, hd⟩ := hrel
    by_cases hlt : k < n
    · have hltI : (k : Int) < (n : Int) := by omega
      have h1 := (HO.out.below hd.out).2.2.2
      rcases h1 with h1 | ⟨b, off, rfl, _, hc⟩
      · omega
      have hx := hc k hlt
      clear hc
      have HN := Lib.hid (ol_snoc (L := L) (k := k) (by rw [HLn.out]; exact hlt))
      obtain ⟨x, ex⟩ : ∃ x, L[k]! = x := ⟨_, rfl⟩
      rw [ex] at hx HN
      clear ex
      obtain ⟨x0, x1, x2, x3, x4, x5⟩ := hx
      have hsz := hd.out.size
      go_wp2_with (at_builtin; refine wpList_append_own _ rfl _ _ 24 rfl w.heap.size 41 i0 (.agg (OC ⟨0, 0, 0, 0, 0, 0⟩)) 6 48 Try.underlying24 hi0 hz0 hz1 hz2 rfl (by decide) _ _ _ rfl ((hown.alloc (Obj.cells (OC x) 35)).alloc _) ⟨wr.heap.size + 1, 0, none⟩ 1 1 (encO x) rfl rfl ?c1 ?c2 ?c3 ?c4 ?c5 ?_)
      case c1 =>
        have e1 : wr.heap.size + 1 = (wr.alloc (Obj.cells (OC x) 35)).heap.size := by simp
        rw [e1]
        exact six_news _ x
      case c2 => exact enc_one x
      case c3 => unfold maxLen; omega
      case c4 => omega
      case c5 => simp; omega
      intro v1 w1 hown1 hg1 _
      have hB1 : Hid (Below w.heap.size w w1) := Below.grown ((hd.out.alloc hsz _).alloc (by simp; omega) _) hg1 (by simp; omega) (fun k hk => (hown.lt k hk).1)
      rw [← HN.out] at hown1
      clear hg1 hown hd
      go_wp2_with fail
      go_roundg (n - (k + 1))
      case measure => omega
      case rel => exact ⟨k + 1, by go_num, by omega, by omega, hown1, hB1⟩
    · have hltI : ¬ (k : Int) < (n : Int) := by omega
      obtain rfl : k = n := by omega
      rw [List.take_of_length_le (by rw [HLn.out]; exact Nat.le_refl _)] at hown
      obtain ⟨A', c', rfl, hc, ht⟩ := own_ods hown hn (fun x hx => (HO.out.below hd.out).2.2.1 x hx)
      have HF : Hid (Below w.heap.size w wr ∧ Ods wr A' k L ∧ CapOk A' k c') := ⟨hd.out, ht, hc⟩
      clear hown ht hd
      go_wp2_with fail
      go_ret
      exact ⟨A', k, c', rfl, HF.out⟩

def eqL : List Od → List Od → Bool
  | [], [] => true
  | x :: l, y :: m => eqO x y && eqL l m
  | _, _ => false
theorem eqL_iff : ∀ (l m : List Od), eqL l m = true ↔ l = m
  | [], [] => by simp [eqL]
  | x :: l, y :: m => by simp [eqL, eqO_iff, eqL_iff l m]
  | [], y :: m => by simp [eqL]
  | x :: l, [] => by simp [eqL]
theorem eqL_no {l m : List Od} {i : Nat} (_hi : i < l.length) (_hl : l.length = m.length) (h : eqO l[i]! m[i]! = false) : eqL l m = false := by
  cases e : eqL l m with
  | false => rfl
  | true =>
    rw [eqL_iff] at e
    subst e
    have := (eqO_iff l[i]! l[i]!).2 rfl
    rw [h] at this; cases this
theorem eqL_yes {l m : List Od} (hl : l.length = m.length) (h : ∀ i, i < l.length → l[i]! = m[i]!) : eqL l m = true := by
  rw [eqL_iff]
  apply List.ext_getElem hl
  intro i h1 h2
  have := h i h1
  rwa [getElem!_pos l i h1, getElem!_pos m i h2] at this
def EqIs (w : World) (b : Bool) (e : Ending) (w' : World) : Prop := e = .returned (.bool b) ∧ Gw w w'
set_option maxHeartbeats 4000000 in
set_option maxRecDepth 1000000 in
theorem same_c (A B : Option Addr) (n c c' : Nat) (L M : List Od) (w : World) (H : Ods w A n L) (K : Ods w B n M) (hn : n ≤ 1000) :
    Calls Try.prog 14 #[.slice A n c, .slice B n c'] w (EqIs w (eqL L M)) := by
  have mixed : Try.prog.follows .mixedOrders = true := by kernel_rfl
  obtain ⟨hl, _, _, h⟩ := H
  obtain ⟨kl, _, _, k⟩ := K
  have HLn := Lib.hid hl
  have KLn := Lib.hid kl
  have HH := Lib.hid h
  have KK := Lib.hid k
  have HE := Lib.hid (fun q : Nat => (show EqIs w (eqL L M) (.returned (.bool (eqL L M))) (w.drewN q) from ⟨rfl, ⟨below_drewN (Below.refl _ _) _, Nat.le_add_right _ _⟩⟩))
  clear hl kl h k
  go_enter Try.func14, Try.ntmps14
  have enn : ((n : Int) == (n : Int)) = true := by simp
  go_wp2
  go_loopg [13] n (fun kx s13 wr => ∃ i q : Nat, s13 = .int .i64 i ∧ i ≤ n ∧ n - i ≤ kx ∧ wr = w.drewN q ∧ Hid (∀ j, j < i → L[j]! = M[j]!))
  case atStart => exact ⟨0, 0, rfl, by omega, by omega, rfl, Lib.hid (fun j hj => by omega)⟩
  case round =>
    obtain ⟨i, q, rfl, hin, hkx, rfl, HI⟩ := hrel
    by_cases hlt : i < n
    · have hltz : (i : Int) < (n : Int) := by omega
      have h1 := HH.out
      have k1 := KK.out
      rcases h1 with h1 | ⟨b, off, rfl, _, hc⟩
      · omega
      rcases k1 with k1 | ⟨b', off', rfl, _, kc⟩
      · omega
      have hx := hc i hlt
      have hy := kc i hlt
      clear hc kc
      obtain ⟨x, ex⟩ : ∃ x, L[i]! = x := ⟨_, rfl⟩
      obtain ⟨y, ey⟩ : ∃ y, M[i]! = y := ⟨_, rfl⟩
      rw [ex] at hx
      rw [ey] at hy
      have XY : Hid (L[i]! = x ∧ M[i]! = y) := ⟨ex, ey⟩
      clear ex ey
      obtain ⟨x0, x1, x2, x3, x4, x5⟩ := hx
      obtain ⟨y0, y1, y2, y3, y4, y5⟩ := hy
      have hq := neqR x y
      cases he : eqO x y with
      | true =>
        rw [he] at hq
        have HN : Hid (∀ j, j < i + 1 → L[j]! = M[j]!) := Lib.hid (fun j hj => by
          by_cases e : j < i
          · exact HI.out j e
          · obtain rfl : j = i := by omega
            rw [XY.out.1, XY.out.2]; exact (eqO_iff x y).1 he)
        clear he
        go_wp2_with fail
        go_quiet (fail)
        go_wp2_with fail
        go_roundg (n - (i + 1))
        case measure => omega
        case rel => exact ⟨i + 1, q + nq, by go_num, by omega, by omega, (by first | rfl | exact World.drewN_drewN _ _ _), HN⟩
      | false =>
        rw [he] at hq
        have HF : Hid (eqL L M = false) := Lib.hid (eqL_no (i := i) (by rw [HLn.out]; exact hlt) (by rw [HLn.out, KLn.out]) (by rw [XY.out.1, XY.out.2]; exact he))
        clear he
        go_wp2_with fail
        go_quiet (fail)
        go_wp2_with fail
        go_ret
        try rw [World.drewN_drewN]
        have := HE.out (q + nq)
        rw [HF.out] at this
        rw [HF.out]
        exact this
    · have hltz : ¬ (i : Int) < (n : Int) := by omega
      obtain rfl : i = n := by omega
      have HF : Hid (eqL L M = true) := Lib.hid (eqL_yes (by rw [HLn.out, KLn.out]) (fun j hj => HI.out j (by rw [HLn.out] at hj; exact hj)))
      go_wp2
      go_ret
      have := HE.out q
      rw [HF.out] at this
      rw [HF.out]
      exact this

/-- Where the first own one stands; how many there are, if none does. -/
def frO (p a : Int) (L : List Od) : Nat := L.findIdx (isOwn p a)
theorem frO_le (p a : Int) (L : List Od) : frO p a L ≤ L.length := List.findIdx_le_length
theorem frO_at {p a : Int} {L : List Od} {k : Nat} (hk : k < L.length) (h : ∀ j, j < k → isOwn p a L[j]! = false) (ht : isOwn p a L[k]! = true) : frO p a L = k := by
  unfold frO
  rw [List.findIdx_eq hk]
  refine ⟨by rw [getElem!_pos L k hk] at ht; exact ht, fun j hj => ?_⟩
  have := h j hj
  rwa [getElem!_pos L j (by omega)] at this
theorem frO_none {p a : Int} {L : List Od} (h : ∀ j, j < L.length → isOwn p a L[j]! = false) : frO p a L = L.length := by
  unfold frO
  rw [List.findIdx_eq_length]
  intro x hx
  obtain ⟨j, hj, rfl⟩ := List.mem_iff_getElem.1 hx
  have := h j hj
  rwa [getElem!_pos L j hj] at this
theorem frO_own {p a : Int} {L : List Od} (h : frO p a L < L.length) : isOwn p a L[frO p a L]! = true := by
  rw [getElem!_pos L _ h]
  exact List.findIdx_getElem (w := h)
def idxN (p a : Int) (L : List Od) : Int := if frO p a L < L.length then (frO p a L : Int) else -1

set_option maxHeartbeats 4000000 in
set_option maxRecDepth 100000 in
theorem idx_c (g : Nat) (p a : Int) (A : Option Addr) (n c : Nat) (L : List Od) (w : World) (H : Ods w A n L) (K : Bxs w g p a) :
    Calls Try.prog 18 #[.slice A n c, .func (.func 24) #[] #[.pointer (some ⟨g, 0, none⟩), .pointer (some ⟨g + 1, 0, none⟩)]] w fun e w' => e = .returned (.int .i64 (idxN p a L)) ∧ Below w.heap.size w w' := by
  have HT := Lib.hid H
  have HL := Lib.hid H.1
  have HK := Lib.hid K
  have hg : g + 1 < w.heap.size := blk_lt K.2
  have hmI : (n : Int) ≤ 9223372036854775807 := by have := H.2.1; omega
  clear H K
  go_enter Try.func18, Try.ntmps18
  go_wp2_with fail
  go_loopg [8] n (fun kx s8 wr => ∃ k : Nat, s8 = .int .i64 (k : Int) ∧ k ≤ n ∧ n - k ≤ kx ∧ Hid ((∀ j, j < k → isOwn p a L[j]! = false) ∧ Below w.heap.size w wr))
  case atStart => exact ⟨0, rfl, by omega, by omega, Lib.hid ⟨fun j hj => by omega, Below.refl _ _⟩⟩
  case round =>
    obtain ⟨k, rfl, hk, hkx, hd⟩ := hrel
    by_cases hlt : k < n
    · have hltI : (k : Int) < (n : Int) := by omega
      have hk0 : (0 : Int) ≤ (k : Int) := by omega
      have hB := hd.out.2
      have HH := HT.out.below hB
      obtain ⟨b, off, rfl, hb, hc⟩ : ∃ b off, A = some ⟨b, off, none⟩ ∧ b < wr.heap.size ∧ ∀ i, i < n → (L[i]!).at wr b (off + i * 6) := by
        rcases HH.2.2.2 with h | h
        · omega
        · exact h
      have hx := hc k hlt
      obtain ⟨x, ex⟩ : ∃ x, L[k]! = x := ⟨_, rfl⟩
      rw [ex] at hx
      have HX := Lib.hid ex
      have HW := Lib.hid (fun w1 (h1 : Below w.heap.size w w1) => own1_c g p a x w1 (HK.out.below h1 hg))
      clear ex hc HH
      obtain ⟨x0, x1, x2, x3, x4, x5⟩ := hx
      cases hbd : isOwn p a x
      · have HF : Hid (∀ j, j < k + 1 → isOwn p a L[j]! = false) := Lib.hid (fun j hj => by
          by_cases e : j < k
          · exact hd.out.1 j e
          · obtain rfl : j = k := by omega
            rw [HX.out]; exact hbd)
        rw [hbd] at HW
        have HD := Lib.hid hB
        clear hB hd hbd
        go_wp2_with fail
        ((with_reducible refine (HW.out _ HD.out).mono ?_); rintro e w1 ⟨rfl, hd1⟩)
        have hD : Hid (Below w.heap.size w w1) := HD.out.trans (hd1.mono HD.out.size)
        clear hd1 HW
        go_wp2_with fail
        go_roundg (n - (k + 1))
        case measure => omega
        case rel => exact ⟨k + 1, by go_num, by omega, by omega, Lib.hid ⟨HF.out, hD.out⟩⟩
      · have HF : Hid (idxN p a L = (k : Int)) := Lib.hid (by
          have e := frO_at (by rw [HL.out]; exact hlt) hd.out.1 (by rw [HX.out]; exact hbd)
          unfold idxN
          rw [e, if_pos (by rw [HL.out]; exact hlt)])
        rw [hbd] at HW
        have HD := Lib.hid hB
        clear hB hd hbd
        go_wp2_with fail
        ((with_reducible refine (HW.out _ HD.out).mono ?_); rintro e w1 ⟨rfl, hd1⟩)
        have hD : Hid (Below w.heap.size w w1) := HD.out.trans (hd1.mono HD.out.size)
        clear hd1 HW
        go_wp2_with fail
        go_ret
        rw [HF.out]
        exact ⟨rfl, hD.out⟩
    · have hltI : ¬ (k : Int) < (n : Int) := by omega
      have HF : Hid (idxN p a L = -1) := Lib.hid (by
        have e := frO_none (p := p) (a := a) (L := L) (fun j hj => hd.out.1 j (by rw [HL.out] at hj; omega))
        unfold idxN
        rw [e, if_neg (by omega)])
      go_wp2_with fail
      go_ret
      rw [HF.out]
      exact ⟨rfl, hd.out.2⟩
end Go.Proofs.Ytjfpbphdhgkccaa
