/- parcel: the parcels of a list of pieces, laid one behind the other. -/
import Derived.Test.YtpinenfclpapjaaPcZ
import Derived.Test.YtpinenfclpapjaaPcT
namespace Go.Proofs.Ytpinenfclpapjaa
open Go.RowKit

theorem info_int : (Try.prog.info? 3).map (fun i => (i.zero, i.size, i.bytes)) = some (some (.int .i64 0), 1, 8) := by kernel_rfl

/-- The parcel of a piece, if it may have one. -/
def piP (x : Pie) : List (List UInt8) := if x.kd.toNat = 0 then [] else [wrapB x.kd.toNat x.bZ]
def goodP (its : List Pie) : List (List UInt8) := its.flatMap piP
theorem goodP_snoc {its : List Pie} {k : Nat} (h : k < its.length) : goodP (its.take (k + 1)) = goodP (its.take k) ++ piP its[k]! := by
  unfold goodP
  rw [List.take_succ_eq_append_getElem h, List.flatMap_append, List.getElem!_eq_getElem?_getD, List.getElem?_eq_getElem h]
  simp
/-- A piece that may be wrapped. -/
def OkP (x : Pie) : Prop := x.kd.toNat < 256 ∧ x.bZ.length ≤ 500
theorem goodP_whole {its : List Pie} (h : ∀ x ∈ its, OkP x) : ∀ p ∈ goodP its, Whole p := by
  intro p hp
  unfold goodP at hp
  obtain ⟨x, hx, hpx⟩ := List.mem_flatMap.1 hp
  unfold piP at hpx
  split at hpx
  · cases hpx
  · rw [List.mem_singleton] at hpx
    subst hpx
    obtain ⟨h1, h2⟩ := h x hx
    exact whole_wrap _ (by omega) h1 _ (by omega)
theorem wrapB_len (kd : Nat) (l : List UInt8) (h : l.length ≤ 500) : (wrapB kd l).length ≤ 520 ∧ 5 ≤ (wrapB kd l).length := by
  have : (natB l.length).length ≤ 10 := natB_len10 (by omega)
  unfold wrapB headB
  simp [four_len]
  omega
theorem goodP_len : ∀ {its : List Pie}, (∀ x ∈ its, OkP x) → (goodP its).flatten.length ≤ its.length * 520 ∧ (goodP its).length ≤ its.length
  | [], _ => by simp [goodP]
  | x :: its, h => by
    have ih := goodP_len (its := its) (fun y hy => h y (by simp [hy]))
    have hx := h x (by simp)
    have hw := wrapB_len x.kd.toNat x.bZ hx.2
    have e : goodP (x :: its) = piP x ++ goodP its := rfl
    rw [e, List.flatten_append, List.length_append, List.length_append, List.length_cons]
    unfold piP
    split
    · rw [List.flatten_nil, List.length_nil, List.length_nil]; omega
    · rw [List.flatten_cons, List.flatten_nil, List.append_nil, List.length_cons, List.length_nil]; omega
theorem endsF_len : ∀ (ps : List (List UInt8)) (a : Nat), (endsF a ps).length = ps.length
  | [], _ => rfl
  | p :: ps, a => by simp [endsF, endsF_len ps]
/-- The ends as they lie. -/
abbrev nInt (n : Nat) : Value := .int .i64 (n : Int)
def endsV (its : List Pie) : List Value := (endsF 0 (goodP its)).map nInt
theorem endsV_len (its : List Pie) : (endsV its).length = (goodP its).length := by unfold endsV; rw [List.length_map, endsF_len]

theorem getKd (its : List Pie) (i : Nat) : ∃ x : Pie, its[i]! = x := ⟨_, rfl⟩
theorem Pies.row {w : World} {a : Option Addr} {len : Nat} {its : List Pie} (h : Pies w a len its) {i : Nat} (hi : i < len) :
    ∃ b off kd A n c Z, a = some ⟨b, off, none⟩ ∧ b < w.heap.size ∧ its[i]! = ⟨((kd : Nat) : Int), A, n, c, Z⟩ ∧ w.cell? ⟨b, off + i * 2, none⟩ = some (.int .u8 (kd : Int)) ∧ w.cell? ⟨b, off + i * 2 + 1, none⟩ = some (.slice A n c) ∧
      kd < 256 ∧ SlB w A n Z ∧ n ≤ c ∧ c ≤ maxLen ∧ (A = none → c = 0) := by
  obtain ⟨h1, h2, h3, h4⟩ := h
  rcases h4 with h4 | ⟨b, off, ha, hb, hc⟩
  · omega
  · obtain ⟨p0, p1⟩ := hc i hi
    have hm : its[i]! ∈ its := by
      rw [List.getElem!_eq_getElem?_getD, List.getElem?_eq_getElem (by rw [h1]; exact hi)]
      exact List.getElem_mem _
    have ho := h3 _ hm
    obtain ⟨x, hx⟩ := getKd its i
    rw [hx] at p0 p1 ho
    obtain ⟨kd, A, n, c, Z⟩ := x
    obtain ⟨⟨hk0, hk1⟩, hs, hn, hm2, hnil⟩ := ho
    simp only at p0 p1 hk0 hk1 hs hn hm2 hnil
    obtain ⟨K, rfl⟩ : ∃ K : Nat, (K : Int) = kd := ⟨kd.toNat, by omega⟩
    exact ⟨b, off, K, A, n, c, Z, ha, hb, hx, p0, p1, by omega, hs, hn, hm2, hnil⟩
theorem own_slice {w : World} {base n : Nat} {v : Value} {xs : List Value} {e : TypeId} {size : Nat} (h : w.ownsRow base e size v n xs) : ∃ A c, v = .slice A n c := by
  rcases h.2 with ⟨rfl, rfl⟩ | ⟨k, cap, cur, rfl, _⟩
  · exact ⟨none, 0, rfl⟩
  · exact ⟨_, _, rfl⟩
theorem own_keep {w w' : World} {base n : Nat} {v : Value} {xs : List Value} {e : TypeId} {size : Nat} (h : w.ownsRow base e size v n xs) (hb : Below w.heap.size w w') : w'.ownsRow base e size v n xs := by
  obtain ⟨h1, h2⟩ := h
  refine ⟨h1, ?_⟩
  rcases h2 with hn | ⟨k, cap, cur, rfl, hbk, hk, rest⟩
  · exact .inl hn
  · exact .inr ⟨k, cap, cur, rfl, hbk, (hb.block k (blk_lt hk)).trans hk, rest⟩
theorem own_grown {w w' : World} {base n : Nat} {v : Value} {xs : List Value} {e : TypeId} {size : Nat} {row : Option Nat} (h : w.ownsRow base e size v n xs) (hg : w.grownBy w' row) (hr : ∀ k, v.ownBlock = some k → row ≠ some k) : w'.ownsRow base e size v n xs := by
  obtain ⟨h1, h2⟩ := h
  refine ⟨h1, ?_⟩
  rcases h2 with hn | ⟨k, cap, cur, rfl, hbk, hk, rest⟩
  · exact .inl hn
  · exact .inr ⟨k, cap, cur, rfl, hbk, (hg.block k (blk_lt hk) (fun e => hr k rfl e.symm)).trans hk, rest⟩
theorem wrapZ (Z : List UInt8) : wErr 0 Z = 2 ∧ wOut 0 Z = [] := ⟨rfl, rfl⟩
theorem wrapNZ {kd : Nat} {Z : List UInt8} (h : ¬ kd = 0) (hZ : Z.length ≤ 500) : wErr kd Z = 0 ∧ wOut kd Z = wrapB kd Z := by
  unfold wErr wOut
  rw [if_neg h, if_neg h, if_neg (by omega), if_neg (by omega)]
  exact ⟨rfl, rfl⟩
theorem wrap_sm (n : Nat) (h : n ≤ 100000) : IntKind.i64.wrap (n : Int) = (n : Int) := by
  rw [IntKind.wrap_i64]
  omega
theorem wrap_sm1 (n : Nat) (h : n ≤ 100000) : IntKind.i64.wrap ((n : Int) + 1) = (n : Int) + 1 := by
  rw [IntKind.wrap_i64]
  omega
theorem wrap64_sm1 (n : Nat) (h : n ≤ 100000) : wrap64 ((n : Int) + 1) = (n : Int) + 1 := by
  unfold wrap64
  omega
theorem ne_sm (n : Nat) : ¬ ((n : Int) + 1 = 0) := by omega
theorem tmod_sm (a b t : Nat) (h : t = a % (b + 1)) : (a : Int).tmod ((b : Int) + 1) = (t : Int) := by
  subst h
  rw [Int.tmod_eq_emod_of_nonneg (by omega)]
  rfl
theorem own_cell {w : World} {base n c i : Nat} {A : Option Addr} {xs : List Value} {e : TypeId} {u : Value} (h : w.ownsRow base e 1 (.slice A n c) n xs) (hi : i < n) (hu : xs[i]? = some u) : ∃ g, A = some ⟨g, 0, none⟩ ∧ w.cell? ⟨g, i, none⟩ = some u := by
  rcases h.2 with ⟨_, hn⟩ | ⟨g, cap, cur, hv, _⟩
  · omega
  · injection hv with h1 h2 h3
    subst h1
    have := h.cells (g := g) rfl i u hu
    rw [addr_add, Nat.zero_add] at this
    exact ⟨g, rfl, this⟩
theorem own_more {w : World} {base n c : Nat} {A : Option Addr} {xs : List Value} {e : TypeId} (h : w.ownsRow base e 1 (.slice A n c) n xs) : n ≤ c ∧ c ≤ maxLen ∧ ∀ a, A = some a → a.block < w.heap.size := by
  rcases h.2 with ⟨hv, hn⟩ | ⟨g, cap, cur, hv, _, hk, hc, hm, _⟩
  · injection hv with h1 h2 h3
    subst h1 h3
    exact ⟨by omega, Nat.zero_le _, fun a ha => by cases ha⟩
  · injection hv with h1 h2 h3
    subst h1 h3
    exact ⟨hc, hm, fun a ha => by injection ha with ha; subst ha; exact blk_lt hk⟩
/-- One step of the law's second loop. -/
theorem fold_step {es : List Nat} {q tt : Nat} (h : q < es.length) : (es.take (q + 1)).foldl (fun w x => if x ≤ tt then x else w) 0 = if es[q] ≤ tt then es[q] else (es.take q).foldl (fun w x => if x ≤ tt then x else w) 0 := by
  rw [List.take_succ_eq_append_getElem h, List.foldl_append]
  rfl
/-- The law's second loop, by its rounds. -/
def fwN (es : List Nat) (tt q : Nat) : Nat := (es.take q).foldl (fun w x => if x ≤ tt then x else w) 0
theorem fwN_zero (es : List Nat) (tt : Nat) : fwN es tt 0 = 0 := rfl
theorem fwN_yes {es : List Nat} {tt q x : Nat} (h : es[q]? = some x) (hx : x ≤ tt) : fwN es tt (q + 1) = x := by
  obtain ⟨hq, he⟩ := List.getElem?_eq_some_iff.1 h
  unfold fwN
  rw [fold_step hq, he, if_pos hx]
theorem fwN_no {es : List Nat} {tt q x : Nat} (h : es[q]? = some x) (hx : ¬ x ≤ tt) : fwN es tt (q + 1) = fwN es tt q := by
  obtain ⟨hq, he⟩ := List.getElem?_eq_some_iff.1 h
  unfold fwN
  rw [fold_step hq, he, if_neg hx]
theorem fwN_end (ps : List (List UInt8)) (tt m : Nat) (hm : m = (endsF 0 ps).length) : fwN (endsF 0 ps) tt m = wantN ps tt := by
  subst hm
  unfold fwN
  rw [List.take_length]
  have := wantN_ends ps 0 tt (Nat.zero_le _)
  rw [Nat.zero_add, Nat.sub_zero] at this
  exact this
/-- What the law's second loop finds, round by round. -/
structure Fold (es : List Nat) (tt m wn : Nat) (F : Nat → Nat) : Prop where
  zero : F 0 = 0
  yes : ∀ q x, es[q]? = some x → x ≤ tt → F (q + 1) = x
  no : ∀ q x, es[q]? = some x → ¬ x ≤ tt → F (q + 1) = F q
  fin : F m = wn
theorem fold_of (ps : List (List UInt8)) (tt m : Nat) (hm : m = ps.length) : Fold (endsF 0 ps) tt m (wantN ps tt) (fwN (endsF 0 ps) tt) :=
  ⟨fwN_zero _ _, fun _ _ h hx => fwN_yes h hx, fun _ _ h hx => fwN_no h hx, fwN_end ps tt m (by rw [endsF_len, hm])⟩
/-- A number of the ends, as it lies. -/
theorem ends_cell {w : World} {base m c q : Nat} {A : Option Addr} {es : List Nat} (h : w.ownsRow base 3 1 (.slice A m c) m (es.map nInt)) (hq : q < m) : ∃ g x, A = some ⟨g, 0, none⟩ ∧ es[q]? = some x ∧ w.cell? ⟨g, q, none⟩ = some (.int .i64 (x : Int)) := by
  have hl : es.length = m := by have := h.1; rw [List.length_map, Nat.mul_one] at this; exact this
  have hx : es[q]? = some es[q] := List.getElem?_eq_getElem (by omega)
  obtain ⟨g, hA, hc⟩ := own_cell h hq (u := nInt es[q]) (by rw [List.getElem?_map, hx]; rfl)
  exact ⟨g, _, hA, hx, hc⟩
/-- What End tells, as the law's last line takes it. -/
structure EndIs (G : List UInt8) (tt wn : Nat) : Prop where
  n : endN (G.take tt) = wn
  same : wn = tt → endEr (G.take tt) = 0
  torn : ¬ wn = tt → endEr (G.take tt) = 31
theorem endIs_of (ps : List (List UInt8)) (tt : Nat) (hw : ∀ p ∈ ps, Whole p) (ht : tt ≤ ps.flatten.length) : EndIs ps.flatten tt (wantN ps tt) := by
  obtain ⟨h1, h2⟩ := end_cut ps tt hw ht
  exact ⟨h1, fun e => by rw [h2, if_pos e], fun e => by rw [h2, if_neg e]⟩
theorem int_le_of {a b : Nat} (h : a ≤ b) : (a : Int) ≤ (b : Int) := Int.ofNat_le.2 h
theorem int_lt_of {a b : Nat} (h : a < b) : (a : Int) < (b : Int) := Int.ofNat_lt.2 h
theorem int_nle_of {a b : Nat} (h : ¬ a ≤ b) : ¬ (a : Int) ≤ (b : Int) := fun h' => h (Int.ofNat_le.1 h')
theorem meas_down {q m : Nat} (h : q < m) : m - (intOf (.int .i64 ((q : Int) + 1))).toNat < m - (intOf (.int .i64 (q : Int))).toNat := by
  show m - ((q : Int) + 1).toNat < m - (q : Int).toNat
  omega
theorem int_beq_ne {a b : Nat} (h : ¬ a = b) : ((a : Int) == (b : Int)) = false := by
  rw [beq_eq_false_iff_ne]
  exact fun e => h (Int.ofNat.inj e)
theorem tt_big {tt NG : Nat} (h : tt ≤ NG) (hN : NG ≤ 6240) : tt ≤ 1000000 := by omega
end Go.Proofs.Ytpinenfclpapjaa
