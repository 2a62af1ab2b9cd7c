/- LeG LeH RcA RcB RcC RcD GyF GzA GyG GyH GyI, in one text. (By mkgm.py.) -/
import Derived.Test.YtgbmgdffgmablaaGm3
import Derived.Test.YtgbmgdffgmablaaGm4
import Derived.Deep.MidRow
import Derived.Maps.RangeWalk

/- ladder: Cut, its answers. (By mkleg.py.) -/
namespace Go.Proofs.Ytgbmgdffgmablaa
open Go.RowKit Go.Shelf Go.Sort Go.Maps

end Go.Proofs.Ytgbmgdffgmablaa

/- The law's prices: two rows of the same numbers. -/
namespace Go.Proofs.Ytgbmgdffgmablaa
open Go.RowKit Go.Shelf Go.Sort Go.Maps

/-- A row of numbers, read. -/
theorem ints_at {w : World} {base n : Nat} {v : Value} {l : List Int} (h : w.ownsRow base 2 1 v n (l.map (fun p => Value.int .i64 p))) : ∃ A c, v = .slice A n c ∧ l.length = n ∧ (n = 0 ∨ ∃ g, A = some ⟨g, 0, none⟩ ∧ ∀ i, i < n → w.cell? ⟨g, i, none⟩ = some (.int .i64 (l[i]!))) := by
  obtain ⟨h1, h2⟩ := h
  rw [List.length_map, Nat.mul_one] at h1
  rcases h2 with ⟨e, h0⟩ | ⟨g, cap, cur, e, _, hg, hc, hm, hs, ht⟩
  · subst h0; exact ⟨none, 0, e, h1, .inl rfl⟩
  · refine ⟨_, _, e, h1, .inr ⟨g, rfl, fun i hi => ?_⟩⟩
    have hi' : i < l.length := by rw [h1]; exact hi
    rw [cell_of_row _ _ _ _ _ _ hg, ← Array.getElem?_toList]
    have : (cur.toList.take (n * 1))[i]? = (l.map (fun p => Value.int .i64 p))[i]? := by rw [ht]
    rw [List.getElem?_take, if_pos (by omega), List.getElem?_map, List.getElem?_eq_getElem hi'] at this
    rw [this, getElem!_pos l i hi']
    rfl
end Go.Proofs.Ytgbmgdffgmablaa

/- The reference's book: Get, Best. -/
namespace Go.Proofs.Ytgbmgdffgmablaa
open Go.RowKit Go.Shelf Go.Sort Go.Maps
set_option linter.unusedVariables false

theorem infoRo : (Try.prog.info? 50).map (·.size) = some 6 := by kernel_rfl
theorem retRt {fn : Func} {p q : Tmp} (h : fn.results = #[.cell p 50, .tmp q]) (tmps : Array Value) (w : World) (g : Nat) (hp : tmps.getD p undef = .pointer (some ⟨g, 0, none⟩)) (z : Od) (t : TypeId)
    (hg : Cl t w g (OC z)) (v : Value) (hq : tmps.getD q undef = v) : (results fn tmps).run Try.prog w = .ok (.tuple #[.agg (OC z), v]) w := by
  have hp' : tmps[p]?.getD undef = .pointer (some ⟨g, 0, none⟩) := by simpa using hp
  have hq' : tmps[q]?.getD undef = v := by simpa using hq
  simp [results, h, hp', hq', asAddr, run_loadVar_row w g _ _ _ (0, 0) _ hg Try.underlying50 rfl infoRo]
/-- A reference's book, read in any world that keeps it. -/
theorem rb_read {w : World} {wb : Nat} {M : List Od} (H : RB w wb M) : ∃ A c, wb < w.heap.size ∧ Hid (∀ W, Below w.heap.size w W → Cl 48 W wb #[.slice A M.length c] ∧ W.cell? ⟨wb, 0, none⟩ = some (.slice A M.length c) ∧ ∀ i, i < M.length → ∃ g, A = some ⟨g, 0, none⟩ ∧ (M[i]!).at W g (i * 6)) := by
  obtain ⟨A, c, hc, hr⟩ := H
  refine ⟨A, c, blk_lt hc, Lib.hid (fun W hW => ?_)⟩
  have hc' : Cl 48 W wb #[.slice A M.length c] := (hW.block _ (blk_lt hc)).trans hc
  obtain ⟨A', c', hv, hq⟩ := own_que (own_low hr hW)
  injection hv with e1 _ _
  subst e1
  refine ⟨hc', (hc'.c 0).trans rfl, fun i hi => ?_⟩
  rcases hq.2 with h0 | ⟨g, h1, _, h3⟩
  · omega
  · exact ⟨g, h1, h3 i hi⟩
/-- What the reference's Get tells. -/
def getO (id : Int) (M : List Od) : Option Od := if idxN id M < M.length then some (M[idxN id M]!) else none
theorem atI_get {id : Int} {M : List Od} : (∃ i : Nat, idxN id M = i ∧ i < M.length ∧ atI id M = (i : Int) ∧ getO id M = some (M[i]!)) ∨ (atI id M = -1 ∧ getO id M = none) := by
  unfold atI getO
  by_cases h : idxN id M < M.length
  · exact .inl ⟨_, rfl, h, if_pos h, if_pos h⟩
  · exact .inr ⟨if_neg h, if_neg h⟩

set_option maxHeartbeats 4000000 in
set_option maxRecDepth 100000 in
theorem rGet_c (wb : Nat) (id : Int) (M : List Od) (w : World) (H : RB w wb M) (hn : M.length ≤ 1000) :
    Calls Try.prog 41 #[.pointer (some ⟨wb, 0, none⟩), .int .u64 id] w fun e w' => e = .returned (.tuple #[optV (getO id M), .bool (getO id M).isSome]) ∧ Hid (Below w.heap.size w w') := by
  obtain ⟨A, c, hwb, HR⟩ := rb_read H
  have B0 : Below w.heap.size w (w.alloc (.cells (OC ⟨0, 0, 0, 0, 0, 0⟩) 50)) := (Below.refl _ _).alloc (Nat.le_refl _) _
  have HAt : Hid (Calls Try.prog 39 #[.pointer (some ⟨wb, 0, none⟩), .int .u64 id] (w.alloc (.cells (OC ⟨0, 0, 0, 0, 0, 0⟩) 50)) fun e w' => e = .returned (.int .i64 (atI id M)) ∧ w' = (w.alloc (.cells (OC ⟨0, 0, 0, 0, 0, 0⟩) 50))) := Lib.hid (rAt_c wb id M _ (rb_low H B0) hn)
  have hC : Cl 50 (w.alloc (.cells (OC ⟨0, 0, 0, 0, 0, 0⟩) 50)) w.heap.size (OC ⟨0, 0, 0, 0, 0, 0⟩) := hd_last rfl
  obtain ⟨_, c0, hx⟩ := HR.out _ B0
  have HB0 := Lib.hid B0
  have HC := Lib.hid hC
  clear B0 H hC HR
  rcases atI_get (id := id) (M := M) with ⟨i, _, hi, ha, hg⟩ | ⟨ha, hg⟩
  · rw [ha] at HAt
    rw [hg]
    obtain ⟨g, rfl, x0, x1, x2, x3, x4, x5⟩ := hx i hi
    obtain ⟨x, ex⟩ : ∃ x, M[i]! = x := ⟨_, rfl⟩
    rw [ex] at x0 x1 x2 x3 x4 x5 ⊢
    have hiI : (i : Int) < (M.length : Int) := by omega
    have hi0 : (0 : Int) ≤ (i : Int) := by omega
    have hi1 : decide ((i : Int) < 0) = false := decide_eq_false (by omega)
    clear hx ha hg hi ex
    go_enter Try.func41, Try.ntmps41
    go_wp2_with ((with_reducible refine HAt.out.mono ?_); rintro e w1 ⟨rfl, rfl⟩)
    refine bodyPost_ret (retRt rfl _ _ _ rfl x _ (hd_last rfl) _ rfl) rfl ?_
    exact ⟨rfl, Lib.hid ((Below.refl _ _).alloc (Nat.le_refl _) _)⟩
  · rw [ha] at HAt
    rw [hg]
    clear hx ha hg
    go_enter Try.func41, Try.ntmps41
    go_wp2_with ((with_reducible refine HAt.out.mono ?_); rintro e w1 ⟨rfl, rfl⟩)
    refine bodyPost_ret (retRt rfl _ _ _ rfl ⟨0, 0, 0, 0, 0, 0⟩ _ (hd_last rfl) _ rfl) rfl ?_
    exact ⟨rfl, Lib.hid ((Below.refl _ _).alloc (Nat.le_refl _) _)⟩

theorem best_upto {sd : Int} {M : List Od} {i : Nat} (hi : i < M.length) (h : ∀ k, k < i → ¬ (M[k]!).side = sd) (he : (M[i]!).side = sd) : bestL sd M = some (M[i]!) := by
  unfold bestL sideL
  have e : M = M.take i ++ M[i]! :: M.drop (i + 1) := by
    rw [getElem!_pos M i hi, ← List.drop_eq_getElem_cons hi, List.take_append_drop]
  have h1 : (M.take i).filter (fun x => x.side == sd) = [] := by
    rw [List.filter_eq_nil_iff]
    intro x hx
    obtain ⟨k, hk, rfl⟩ := List.mem_iff_getElem.1 hx
    rw [List.getElem_take]
    rw [List.length_take] at hk
    have := h k (by omega)
    rw [getElem!_pos M k (by omega)] at this
    simpa using this
  rw [e, List.filter_append, h1, List.nil_append, List.filter_cons]
  rw [← e, if_pos (by simpa using he)]
  rfl
theorem best_nobody {sd : Int} {M : List Od} (h : ∀ k, k < M.length → ¬ (M[k]!).side = sd) : bestL sd M = none := by
  unfold bestL sideL
  have h1 : M.filter (fun x => x.side == sd) = [] := by
    rw [List.filter_eq_nil_iff]
    intro x hx
    obtain ⟨k, hk, rfl⟩ := List.mem_iff_getElem.1 hx
    have := h k hk
    rw [getElem!_pos M k hk] at this
    simpa using this
  rw [h1]; rfl

set_option maxHeartbeats 4000000 in
set_option maxRecDepth 100000 in
theorem rBest_c (wb : Nat) (sd : Int) (M : List Od) (w : World) (H : RB w wb M) (hn : M.length ≤ 1000) :
    Calls Try.prog 42 #[.pointer (some ⟨wb, 0, none⟩), .int .i64 sd] w fun e w' => e = .returned (.tuple #[optV (bestL sd M), .bool (bestL sd M).isSome]) ∧ Hid (Below w.heap.size w w') := by
  obtain ⟨A, c, hwb, HR⟩ := rb_read H
  have B0 : Below w.heap.size w (w.alloc (.cells (OC ⟨0, 0, 0, 0, 0, 0⟩) 50)) := (Below.refl _ _).alloc (Nat.le_refl _) _
  have hC : Cl 50 (w.alloc (.cells (OC ⟨0, 0, 0, 0, 0, 0⟩) 50)) w.heap.size (OC ⟨0, 0, 0, 0, 0, 0⟩) := hd_last rfl
  obtain ⟨_, c0, hx⟩ := HR.out _ B0
  have HB0 := Lib.hid B0
  have HC := Lib.hid hC
  have HX := Lib.hid hx
  obtain ⟨n, hl⟩ : ∃ n, M.length = n := ⟨_, rfl⟩
  obtain ⟨R, hR⟩ : ∃ R, bestL sd M = R := ⟨_, rfl⟩
  have HM := Lib.hid hl
  have HRs := Lib.hid hR
  rw [hl] at c0 HX hn
  rw [hR]
  clear B0 H hC HR hx hl hR hwb
  go_enter Try.func42, Try.ntmps42
  go_wp2_with fail
  go_loopw [6] (fun s wr => ∃ i : Nat, s = .int .i64 (i : Int) ∧ wr = w.alloc (.cells (OC ⟨0, 0, 0, 0, 0, 0⟩) 50) ∧ Hid (i ≤ n ∧ ∀ k, k < i → ¬ (M[k]!).side = sd)) (fun s _ => match s with | .int _ z => n - z.toNat | _ => 0)
  case atStart => exact ⟨0, rfl, rfl, Nat.zero_le _, fun k hk => absurd hk (Nat.not_lt_zero _)⟩
  case round =>
    obtain ⟨i, rfl, rfl, hd⟩ := hrel
    by_cases hi : i < n
    · obtain ⟨g, rfl, x0, x1, x2, x3, x4, x5⟩ := HX.out i hi
      obtain ⟨x, hx⟩ : ∃ x, M[i]! = x := ⟨_, rfl⟩
      rw [hx] at x0 x1 x2 x3 x4 x5
      have hiI : (i : Int) < (n : Int) := by omega
      have hi0 : (0 : Int) ≤ (i : Int) := by omega
      have Hi := Lib.hid (And.intro hi hx)
      have hw9 : IntKind.i64.wrap ((i : Int) + 1) = ((i + 1 : Nat) : Int) := by rw [IntKind.wrap_i64]; omega
      clear hx hi
      by_cases he : x.side = sd
      · have eb : (x.side == sd) = true := by simp [he]
        have hz : R = some x := by
          rw [← HRs.out, ← Hi.out.2]
          exact best_upto (by rw [HM.out]; exact Hi.out.1) hd.out.2 (by rw [Hi.out.2]; exact he)
        subst hz
        clear he
        go_wp2_with fail
        refine bodyPost_ret (retRt rfl _ _ _ rfl x _ (hd_last rfl) _ rfl) rfl ?_
        exact ⟨rfl, Lib.hid ((Below.refl _ _).alloc (Nat.le_refl _) _)⟩
      · have eb : (x.side == sd) = false := by simp [he]
        have HN : Hid (i + 1 ≤ n ∧ ∀ k, k < i + 1 → ¬ (M[k]!).side = sd) := Lib.hid ⟨Hi.out.1, fun k hk => by
          rcases Nat.lt_succ_iff_lt_or_eq.1 hk with h | rfl
          · exact hd.out.2 k h
          · rw [Hi.out.2]; exact he⟩
        clear he
        go_wp2_with fail
        first | exact ⟨⟨i + 1, by go_num, rfl, HN⟩, less_left Hi.out.1⟩ | exact ⟨⟨i + 1, by go_num, trivial, HN⟩, less_left Hi.out.1⟩ | exact ⟨⟨i + 1, rfl, trivial, HN⟩, less_left Hi.out.1⟩
    · obtain rfl : i = n := by have := hd.out; omega
      have hiI : ¬ (i : Int) < (i : Int) := by omega
      have hz : R = none := by
        rw [← HRs.out]
        exact best_nobody (fun k hk => hd.out.2 k (by rw [HM.out] at hk; exact hk))
      subst hz
      go_wp2_with fail
      refine bodyPost_ret (retRt rfl _ _ _ rfl ⟨0, 0, 0, 0, 0, 0⟩ _ (hd_last rfl) _ rfl) rfl ?_
      first | exact ⟨rfl, Lib.hid ((Below.refl _ _).alloc (Nat.le_refl _) _)⟩ | exact ⟨trivial, Lib.hid ((Below.refl _ _).alloc (Nat.le_refl _) _)⟩
end Go.Proofs.Ytgbmgdffgmablaa

/- The reference's book: Take. -/
namespace Go.Proofs.Ytgbmgdffgmablaa
open Go.RowKit Go.Shelf Go.Sort Go.Maps Go.Lib
set_option linter.unusedVariables false

theorem wpL_append {P : Program} {rest : List Oper} {opa : Array Oper} {o : Oper} {a : Act} {w : World} {Q : Exit → Act → World → Prop} (hgd : o.guard = none) (s x : Operand) (t : TypeId)
    (ho : o.op = .call { callee := .builtin .append, args := #[s, x], argTypes := #[t, t] }) (v u : Value) (hs : a.eval s = v) (hx : a.eval x = u) {v' : Value} {w' : World} (hr : (Builtin.append_ #[t, t] o.type #[v, u]).run P w = .ok v' w')
    (h : wpList P opa Q rest (a.put o.dst v') w') : wpList P opa Q (o :: rest) a w := by
  refine wpList_plain hgd fun K hK => ?_
  unfold Oper.wp execOp
  simp only [ho, resolve, invoke, builtin, Sem.run_bind, Sem.run_pure, Result.andThen_ok, List.map_toArray, List.map_cons, List.map_nil, hs, hx, hr]
  exact hK _ _ h
theorem olDrop : ∀ (M : List Od) (k : Nat), (ol M).drop (k * 6) = ol (M.drop k)
  | M, 0 => by simp
  | [], k + 1 => by simp [ol]
  | x :: M, k + 1 => by
    have e : (k + 1) * 6 = 6 + k * 6 := by omega
    rw [e, ← List.drop_drop]
    show ((encO x ++ ol M).drop 6).drop (k * 6) = _
    rw [show (encO x ++ ol M).drop 6 = ol M from rfl]
    exact olDrop M k
theorem olTake : ∀ (M : List Od) (k : Nat), (ol M).take (k * 6) = ol (M.take k)
  | M, 0 => by simp [ol]
  | [], k + 1 => by simp [ol]
  | x :: M, k + 1 => by
    have e : (k + 1) * 6 = 6 + k * 6 := by omega
    rw [e]
    show (encO x ++ ol M).take (6 + k * 6) = encO x ++ ol (M.take k)
    rw [← olTake M k]
    exact List.take_length_add_append (l₁ := encO x) (k * 6)
/-- A row of orders of the call's own that is not empty: its cells. -/
theorem row_cells {w : World} {base : Nat} {T : TypeId} {A : Option Addr} {c n : Nat} {M : List Od} (h : w.ownsRow base T 6 (.slice A n c) n (ol M)) (hn : 0 < n) : ∃ g, A = some ⟨g, 0, none⟩ ∧ base ≤ g ∧ n ≤ c ∧ g < w.heap.size ∧ ∀ j u, (ol M)[j]? = some u → w.cell? ⟨g, j, none⟩ = some u := by
  rcases h.2 with ⟨_, h0⟩ | ⟨k, cap, cur, hv, hb, hk, hc, _, _, ht⟩
  · omega
  · injection hv with e1 e2 e3
    subst e1 e3
    refine ⟨k, rfl, hb, hc, blk_lt hk, fun j u hj => ?_⟩
    rw [cell_of_row _ _ _ _ _ _ hk]
    rw [← ht, List.getElem?_take] at hj
    split at hj
    · rw [Array.getElem?_toList] at hj; exact hj
    · cases hj
theorem take_news {w : World} {g i : Nat} {M : List Od} (hi : i < M.length) (h : ∀ j u, (ol M)[j]? = some u → w.cell? ⟨g, j, none⟩ = some u) : ∀ j u, (ol (M.take i))[j]? = some u → w.cell? ((⟨g, 0, none⟩ : Addr).add j) = some u := by
  intro j u hj
  rw [← olTake, List.getElem?_take] at hj
  rw [addr_add, Nat.zero_add]
  split at hj
  · exact h j u hj
  · cases hj
theorem drop_news {w : World} {g i : Nat} {M : List Od} (h : ∀ j u, (ol M)[j]? = some u → w.cell? ⟨g, j, none⟩ = some u) : ∀ j u, (ol (M.drop (i + 1)))[j]? = some u → w.cell? ((⟨g, (i + 1) * 6, none⟩ : Addr).add j) = some u := by
  intro j u hj
  rw [← olDrop, List.getElem?_drop] at hj
  rw [addr_add]
  exact h _ u hj

/-- append of a part of a row. -/
theorem run_app2 (W : World) (base : Nat) (ty : TypeId) (v : Value) (n : Nat) (xs : List Value) (hown : W.ownsRow base 50 6 v n xs) (ad : Addr) (m c : Nat) (L : List Od) (hL : L.length = m) (hs : ∀ j u, (ol L)[j]? = some u → W.cell? (ad.add j) = some u) (hb : n + m ≤ 3000) (hbase : base ≤ W.heap.size) :
    ∃ v' w', (Builtin.append_ #[46, 46] ty #[v, .slice (some ad) m c]).run Try.prog W = .ok v' w' ∧ w'.ownsRow base 50 6 v' (n + m) (xs ++ ol L) ∧ W.grownBy w' v.ownBlock ∧ (v'.ownBlock = v.ownBlock ∨ v'.ownBlock = some W.heap.size) := by
  obtain ⟨i0, hi0, hz0, hz1, hz2⟩ := info_parts info_ro
  obtain ⟨v', w', h1, h2, h3, _, h5⟩ := run_append_own_at (P := Try.prog) W base 46 ty _ i0 (.agg (OC ⟨0, 0, 0, 0, 0, 0⟩)) 6 48 Try.underlying46 hi0 hz0 hz1 hz2 rfl (by decide) v n xs hown ad m c (ol L) (by rw [ol_len, hL]) hs (ol_one _) (by unfold maxLen; omega) (by omega) hbase
  exact ⟨v', w', h1, h2, h3, h5⟩

theorem fr_put6 {S : Nat → Prop} {a X : World} (c : Nat) (o : Od) (h : Fr S a X) (hc : S c ∨ a.heap.size ≤ c) : Fr S a (put6 X c o) := by
  unfold put6
  exact (((((h.set (p := ⟨c, 0, none⟩) hc _).set (p := ⟨c, 1, none⟩) hc _).set (p := ⟨c, 2, none⟩) hc _).set (p := ⟨c, 3, none⟩) hc _).set (p := ⟨c, 4, none⟩) hc _).set (p := ⟨c, 5, none⟩) hc _
/-- What the reference's Take leaves. -/
def RTk (w w' : World) (wb : Nat) (M : List Od) (id : Int) : Prop := RB w' wb (M.eraseIdx (idxN id M)) ∧ Fr (fun k => k = wb) w w'
theorem idx_len (id : Int) (M : List Od) : idxN id M ≤ M.length := List.findIdx_le_length

set_option maxHeartbeats 4000000 in
set_option maxRecDepth 100000 in
theorem rTake_c (wb : Nat) (id : Int) (M : List Od) (w : World) (H : RB w wb M) (hn : M.length ≤ 1000) :
    Calls Try.prog 22 #[.pointer (some ⟨wb, 0, none⟩), .int .u64 id] w fun e w' => e = .returned (.tuple #[optV (getO id M), .bool (getO id M).isSome]) ∧ Hid (RTk w w' wb M id) := by
  have HRB := Lib.hid H
  obtain ⟨A, c, hwb, HR⟩ := rb_read H
  have B0 : Below w.heap.size w (w.alloc (.cells (OC ⟨0, 0, 0, 0, 0, 0⟩) 50)) := (Below.refl _ _).alloc (Nat.le_refl _) _
  have HAt : Hid (Calls Try.prog 39 #[.pointer (some ⟨wb, 0, none⟩), .int .u64 id] (w.alloc (.cells (OC ⟨0, 0, 0, 0, 0, 0⟩) 50)) fun e w' => e = .returned (.int .i64 (atI id M)) ∧ w' = (w.alloc (.cells (OC ⟨0, 0, 0, 0, 0, 0⟩) 50))) := Lib.hid (rAt_c wb id M _ (rb_low H B0) hn)
  have hC : Cl 50 (w.alloc (.cells (OC ⟨0, 0, 0, 0, 0, 0⟩) 50)) w.heap.size (OC ⟨0, 0, 0, 0, 0, 0⟩) := hd_last rfl
  have HB0 := Lib.hid B0
  have HC := Lib.hid hC
  rcases atI_get (id := id) (M := M) with ⟨i, hii, hi, ha, hg⟩ | ⟨ha, hg⟩
  · rw [ha] at HAt
    rw [hg]
    unfold RTk
    rw [hii]
    obtain ⟨_, c0, hx⟩ := HR.out _ B0
    obtain ⟨g, rfl, x0, x1, x2, x3, x4, x5⟩ := hx i hi
    obtain ⟨x, ex⟩ : ∃ x, M[i]! = x := ⟨_, rfl⟩
    rw [ex] at x0 x1 x2 x3 x4 x5 ⊢
    obtain ⟨n, hl⟩ : ∃ n, M.length = n := ⟨_, rfl⟩
    have HM := Lib.hid hl
    have HI := Lib.hid (And.intro hii hi)
    rw [hl] at c0 hi hn HR
    have hiI : (i : Int) < (n : Int) := by omega
    have hi0 : (0 : Int) ≤ (i : Int) := by omega
    have hi1 : decide ((i : Int) < 0) = false := decide_eq_false (by omega)
    have hw1 : IntKind.i64.wrap ((i : Int) + 1) = ((i + 1 : Nat) : Int) := by rw [IntKind.wrap_i64]; omega
    have hcn : n ≤ c := by
      obtain ⟨A', c', h1, h2⟩ := H
      have e0 := (HR.out w (Below.refl _ _)).1
      have e1 : some (Obj.cells #[.slice A' M.length c'] 48 (0, 0)) = some (.cells #[.slice (some ⟨g, 0, none⟩) n c] 48 (0, 0)) := h1.symm.trans e0
      injection e1 with e1
      injection e1 with e1
      injection e1 with e1
      injection e1 with e1 _
      injection e1 with e2 e3 e4
      subst e2 e4
      obtain ⟨_, h3, _, h4, _⟩ := row_cells (c := c') (n := M.length) h2 (by omega)
      omega
    have HRW : Hid (∀ W, Below w.heap.size w W → ∀ j u, (ol M)[j]? = some u → W.cell? ⟨g, j, none⟩ = some u) := Lib.hid (fun W hW => by
      obtain ⟨A', c', h1, h2⟩ := rb_low HRB.out hW
      have e0 := (HR.out W hW).1
      have e1 : some (Obj.cells #[.slice A' M.length c'] 48 (0, 0)) = some (.cells #[.slice (some ⟨g, 0, none⟩) n c] 48 (0, 0)) := h1.symm.trans e0
      injection e1 with e1
      injection e1 with e1
      injection e1 with e1
      injection e1 with e1 _
      injection e1 with e2 e3 e4
      subst e2 e4
      obtain ⟨g', e5, _, _, _, h5⟩ := row_cells h2 (by omega)
      injection e5 with e5; injection e5 with e5 _ _
      subst e5
      exact h5)
    have hd1 : decide ((i : Int) ≤ (c : Int)) = true := decide_eq_true (by omega)
    obtain ⟨ad, had, hNw⟩ : ∃ ad : Addr, (if c = i + 1 then some (⟨g, 0, none⟩ : Addr) else some ⟨g, (i + 1) * 6, none⟩) = some ad ∧ ∀ W, Below w.heap.size w W → ∀ j u, (ol (M.drop (i + 1)))[j]? = some u → W.cell? (ad.add j) = some u := by
      by_cases hc : c = i + 1
      · refine ⟨_, if_pos hc, fun W hW j u hj => ?_⟩
        rw [List.drop_of_length_le (by omega)] at hj
        cases hj
      · exact ⟨_, if_neg hc, fun W hW => drop_news (HRW.out W hW)⟩
    have HNw := Lib.hid hNw
    have hin : (i : Int) + 1 ≤ (n : Int) := by omega
    clear hx ha hg hii hl ex H B0 hC hNw
    obtain ⟨W3, hW3⟩ : ∃ W3, ((w.alloc (.cells (OC ⟨0, 0, 0, 0, 0, 0⟩) 50)).alloc (.cells (OC x) 50)).alloc (.cells #[] 50) = W3 := ⟨_, rfl⟩
    have B3 : Below w.heap.size w W3 := by rw [← hW3]; exact (((Below.refl _ _).alloc (Nat.le_refl _) _).alloc (by simp) _).alloc (by simp; omega) _
    have hE : W3.ownsRow w.heap.size 50 6 (.slice (some ⟨w.heap.size + 1 + 1, 0, none⟩) 0 0) 0 (ol []) := by
      rw [← hW3]; exact ⟨rfl, .inr ⟨_, 0, #[], rfl, by omega, hd_last (by simp), Nat.le_refl _, Nat.zero_le _, rfl, rfl⟩⟩
    have hX7 : Cl 50 W3 (w.heap.size + 1) (OC x) := by rw [← hW3]; exact hd_prev (by simp) (hd_last (by simp))
    have hX0 : Cl 50 W3 w.heap.size (OC ⟨0, 0, 0, 0, 0, 0⟩) := by rw [← hW3]; exact hd_prev (by simp; omega) (hd_prev (by simp) (hd_last rfl))
    have c3 := (HR.out _ B3).2.1
    have HA1 : Hid (∃ v' w', (Builtin.append_ #[46, 46] 46 #[.slice (some ⟨w.heap.size + 1 + 1, 0, none⟩) 0 0, .slice (some ⟨g, 0, none⟩) i c]).run Try.prog W3 = .ok v' w' ∧ w'.ownsRow w.heap.size 50 6 v' i (ol (M.take i)) ∧ Below w.heap.size w w' ∧ Cl 50 w' (w.heap.size + 1) (OC x) ∧ Cl 50 w' w.heap.size (OC ⟨0, 0, 0, 0, 0, 0⟩) ∧ (∀ k, v'.ownBlock = some k → w.heap.size + 1 < k)) := Lib.hid (by
      obtain ⟨v', w', h1, h2, h3, h4⟩ := run_app2 W3 w.heap.size 46 _ 0 _ hE ⟨g, 0, none⟩ i c (M.take i) (by rw [List.length_take]; have := HM.out; omega) (take_news (by have := HM.out; omega) (HRW.out _ B3)) (by omega) B3.size
      rw [Nat.zero_add, show ol [] = [] from rfl, List.nil_append] at h2
      have hz : W3.heap.size = w.heap.size + 3 := by rw [← hW3]; simp
      refine ⟨v', w', h1, h2, below_own B3 hE h3, (h3.block _ (blk_lt hX7) (by simp [Value.ownBlock])).trans hX7, (h3.block _ (blk_lt hX0) (by simp [Value.ownBlock]; omega)).trans hX0, fun k hk => ?_⟩
      rcases h4 with h4 | h4
      · rw [h4] at hk; simp [Value.ownBlock] at hk; omega
      · rw [h4] at hk; injection hk with hk; omega)
    have HW3 := Lib.hid (show W3.heap.size = w.heap.size + 3 by rw [← hW3]; simp)
    have HA2 : Hid (∀ A1 k1 y1, (y1.ownsRow w.heap.size 50 6 (.slice A1 i k1) i (ol (M.take i)) ∧ Below w.heap.size w y1 ∧ Cl 50 y1 (w.heap.size + 1) (OC x) ∧ Cl 50 y1 w.heap.size (OC ⟨0, 0, 0, 0, 0, 0⟩) ∧ (∀ k, (Value.slice A1 i k1).ownBlock = some k → w.heap.size + 1 < k)) →
        ∃ v' w', (Builtin.append_ #[46, 46] 46 #[.slice A1 i k1, .slice (some ad) (n - (i + 1)) (c - (i + 1))]).run Try.prog y1 = .ok v' w' ∧ w'.ownsRow w.heap.size 50 6 v' (M.eraseIdx i).length (ol (M.eraseIdx i)) ∧ Below w.heap.size w w' ∧ Cl 50 w' (w.heap.size + 1) (OC x) ∧ Cl 50 w' w.heap.size (OC ⟨0, 0, 0, 0, 0, 0⟩) ∧ (∀ k, v'.ownBlock = some k → w.heap.size + 1 < k)) := Lib.hid (by
      rintro A1 k1 y1 ⟨q1, q2, q3, q4, q5⟩
      obtain ⟨v', w', h1, h2, h3, h4⟩ := run_app2 y1 w.heap.size 46 _ i _ q1 ad (n - (i + 1)) (c - (i + 1)) (M.drop (i + 1)) (by rw [List.length_drop, HM.out]) (HNw.out _ q2) (by omega) q2.size
      have e1 : M.eraseIdx i = M.take i ++ M.drop (i + 1) := List.eraseIdx_eq_take_drop_succ ..
      have e2 : (M.eraseIdx i).length = i + (n - (i + 1)) := by rw [List.length_eraseIdx, if_pos (by rw [HM.out]; exact hi), HM.out]; omega
      rw [← ol_append, ← e1, ← e2] at h2
      refine ⟨v', w', h1, h2, below_own q2 q1 h3, (h3.block _ (blk_lt q3) (fun e => by have := q5 _ e.symm; omega)).trans q3, (h3.block _ (blk_lt q4) (fun e => by have := q5 _ e.symm; omega)).trans q4, fun k hk => ?_⟩
      rcases h4 with h4 | h4
      · rw [h4] at hk; exact q5 k hk
      · rw [h4] at hk; injection hk with hk; have := blk_lt q3; omega)
    clear hE hX7 hX0 B3
    go_enter Try.func22, Try.ntmps22
    go_wp2_with (first | ((with_reducible refine HAt.out.mono ?_); rintro e w1 ⟨rfl, rfl⟩) | (at_builtin; obtain ⟨v1, y1, hr1, h1⟩ := HA1.out; refine wpL_append rfl _ _ 46 rfl _ _ rfl rfl hr1 ?_; obtain ⟨A1, k1, rfl, _⟩ := own_que2 h1.1; have cy := (HR.out _ h1.2.1).2.1; have HY := Lib.hid h1; clear HA1 h1 hr1 hW3 c3) | (at_builtin; obtain ⟨v2, y2, hr2, h2⟩ := HA2.out _ _ _ HY.out; (try rw [had]); refine wpL_append rfl _ _ 46 rfl _ _ rfl rfl hr2 ?_; obtain ⟨A2, k2, rfl, _⟩ := own_que2 h2.1; clear HA2 HY cy; have b0 := (HR.out _ h2.2.1).1; have d0 := (HR.out _ h2.2.1).2.1; have df := Cl.f (k := 0) b0; have p7 : Cl 50 (y2.setCell ⟨wb, 0, none⟩ (.slice A2 (M.eraseIdx i).length k2)) (w.heap.size + 1) (OC x) := (heap_far (by show w.heap.size + 1 ≠ wb; omega)).trans h2.2.2.1; have p0 : Cl 50 (y2.setCell ⟨wb, 0, none⟩ (.slice A2 (M.eraseIdx i).length k2)) w.heap.size (OC ⟨0, 0, 0, 0, 0, 0⟩) := (heap_far (by show w.heap.size ≠ wb; omega)).trans h2.2.2.2.1; have HY2 := Lib.hid h2; have HP0 := Lib.hid p0; obtain ⟨t0, t1, t2, t3, t4, t5⟩ := six_of p7; obtain ⟨s0, s1, s2, s3, s4, s5⟩ := six_of p0; have f0 := p0.f (k := 0); have f1 := p0.f (k := 1); have f2 := p0.f (k := 2); have f3 := p0.f (k := 3); have f4 := p0.f (k := 4); have f5 := p0.f (k := 5); clear h2 hr2 b0 p7 p0))
    have hf := put6_cl x HP0.out
    refine bodyPost_ret (retRt rfl _ _ _ rfl x _ hf _ rfl) rfl ?_
    refine ⟨rfl, Lib.hid ?_⟩
    obtain ⟨q1, q2, q3, q4, q5⟩ := HY2.out
    have hfr : Fr (fun k => k = wb) w (put6 (y2.setCell ⟨wb, 0, none⟩ (.slice A2 (M.eraseIdx i).length k2)) w.heap.size x) := fr_put6 _ _ (Fr.set (S := fun k => k = wb) (Fr.of_below q2) (p := ⟨wb, 0, none⟩) (.inl rfl) _) (.inr (Nat.le_refl _))
    refine ⟨⟨A2, k2, ?_, ?_⟩, hfr⟩
    · show (put6 _ _ _).heap[wb]? = _
      rw [put6_far _ x (by omega)]
      exact (heap_set (HR.out _ q2).1).trans rfl
    · have h0 : (y2.setCell ⟨wb, 0, none⟩ (.slice A2 (M.eraseIdx i).length k2)).ownsRow w.heap.size 50 6 (.slice A2 (M.eraseIdx i).length k2) (M.eraseIdx i).length (ol (M.eraseIdx i)) :=
        own_fr q1 (S := fun k => k = wb) ((Fr.refl (fun k => k = wb) y2).set (p := ⟨wb, 0, none⟩) (.inl rfl) _) (fun k hk e => by have := q5 k hk; omega)
      refine own_base (own_fr h0 (S := fun k => k = w.heap.size) (fr_put6 _ _ (Fr.refl (fun k => k = w.heap.size) _) (.inl rfl)) (fun k hk e => by have := q5 k hk; omega)) (Nat.zero_le _)
  · rw [ha] at HAt
    rw [hg]
    have hid0 : idxN id M = M.length := by
      have h1 := idx_len id M
      unfold atI at ha
      split at ha
      · omega
      · omega
    have HE : Hid (M.eraseIdx (idxN id M) = M) := Lib.hid (by rw [hid0]; exact List.eraseIdx_of_length_le (Nat.le_refl _))
    have HZ : Hid (∀ w', Below w.heap.size w w' → RTk w w' wb M id) := Lib.hid (fun w' hb => ⟨by rw [HE.out]; exact rb_low HRB.out hb, Fr.of_below hb⟩)
    clear ha hg hid0 HE B0 hC H
    go_enter Try.func22, Try.ntmps22
    go_wp2_with ((with_reducible refine HAt.out.mono ?_); rintro e w1 ⟨rfl, rfl⟩)
    refine bodyPost_ret (retRt rfl _ _ _ rfl ⟨0, 0, 0, 0, 0, 0⟩ _ (hd_last rfl) _ rfl) rfl ?_
    exact ⟨rfl, Lib.hid (HZ.out _ ((Below.refl _ _).alloc (Nat.le_refl _) _))⟩
end Go.Proofs.Ytgbmgdffgmablaa

/- The reference's book: Cut. -/
namespace Go.Proofs.Ytgbmgdffgmablaa
open Go.RowKit Go.Shelf Go.Sort Go.Maps Go.Lib
set_option linter.unusedVariables false

/-- What the reference's Cut tells, and leaves. -/
def cutR (id qty : Int) (M : List Od) : Int × List Od :=
  if idxN id M < M.length then (if qty < 1 ∨ (M[idxN id M]!).qty < qty then (2, M) else if qty = (M[idxN id M]!).qty then (0, M.eraseIdx (idxN id M)) else (0, M.set (idxN id M) (lessO (M[idxN id M]!) qty))) else (51, M)
/-- Six cells of an order stored into a row. -/
def put6o (X : World) (k o : Nat) (x : Od) : World := (((((X.setCell ⟨k, o, none⟩ (.int .u64 x.id)).setCell ⟨k, o + 1, none⟩ (.int .i64 x.acc)).setCell ⟨k, o + 2, none⟩ (.int .i64 x.side)).setCell ⟨k, o + 3, none⟩ (.int .i64 x.price)).setCell ⟨k, o + 4, none⟩ (.int .i64 x.qty)).setCell ⟨k, o + 5, none⟩ (.int .u64 x.seq)
theorem put6o_far (X : World) {k j : Nat} (o : Nat) (x : Od) (h : j ≠ k) : (put6o X k o x).heap[j]? = X.heap[j]? := by
  unfold put6o
  rw [heap_far (by exact h), heap_far (by exact h), heap_far (by exact h), heap_far (by exact h), heap_far (by exact h), heap_far (by exact h)]
theorem fr_put6o {S : Nat → Prop} {a X : World} (c o : Nat) (x : Od) (h : Fr S a X) (hc : S c ∨ a.heap.size ≤ c) : Fr S a (put6o X c o x) := by
  unfold put6o
  exact (((((h.set (p := ⟨c, o, none⟩) hc _).set (p := ⟨c, o + 1, none⟩) hc _).set (p := ⟨c, o + 2, none⟩) hc _).set (p := ⟨c, o + 3, none⟩) hc _).set (p := ⟨c, o + 4, none⟩) hc _).set (p := ⟨c, o + 5, none⟩) hc _
theorem ol_set : ∀ (M : List Od) (i : Nat) (x : Od), i < M.length → ((((((ol M).set (i * 6) (.int .u64 x.id)).set (i * 6 + 1) (.int .i64 x.acc)).set (i * 6 + 2) (.int .i64 x.side)).set (i * 6 + 3) (.int .i64 x.price)).set (i * 6 + 4) (.int .i64 x.qty)).set (i * 6 + 5) (.int .u64 x.seq) = ol (M.set i x)
  | [], i, x, h => absurd h (Nat.not_lt_zero _)
  | y :: M, 0, x, h => rfl
  | y :: M, i + 1, x, h => by
    have ih := ol_set M i x (by simpa using h)
    have e : ∀ j, (i + 1) * 6 + j = (i * 6 + j) + 6 := fun j => by omega
    have e0 : (i + 1) * 6 = i * 6 + 6 := by omega
    show ((((((encO y ++ ol M).set ((i + 1) * 6) (.int .u64 x.id)).set ((i + 1) * 6 + 1) (.int .i64 x.acc)).set ((i + 1) * 6 + 2) (.int .i64 x.side)).set ((i + 1) * 6 + 3) (.int .i64 x.price)).set ((i + 1) * 6 + 4) (.int .i64 x.qty)).set ((i + 1) * 6 + 5) (.int .u64 x.seq) = encO y ++ ol (M.set i x)
    rw [e 1, e 2, e 3, e 4, e 5, e0, ← ih]
    have s : ∀ (l : List Value) (j : Nat) (v : Value), (encO y ++ l).set (j + 6) v = encO y ++ l.set j v := fun l j v => by
      rw [List.set_append_right (s := encO y) _ _ (by show 6 ≤ _; omega)]; rfl
    rw [s, s, s, s, s, s]
theorem own_put6o {w : World} {base k n c i : Nat} {T : TypeId} {M : List Od} (x : Od) (h : w.ownsRow base T 6 (.slice (some ⟨k, 0, none⟩) n c) n (ol M)) (hi : i < M.length) : (put6o w k (i * 6) x).ownsRow base T 6 (.slice (some ⟨k, 0, none⟩) n c) n (ol (M.set i x)) := by
  unfold put6o
  rw [← ol_set M i x hi]
  exact own_setCell (own_setCell (own_setCell (own_setCell (own_setCell (own_setCell h rfl) rfl) rfl) rfl) rfl) rfl
theorem cutR_some {id qty : Int} {M : List Od} {i : Nat} (h : idxN id M = i) (hi : i < M.length) : cutR id qty M = if qty < 1 ∨ (M[i]!).qty < qty then (2, M) else if qty = (M[i]!).qty then (0, M.eraseIdx i) else (0, M.set i (lessO (M[i]!) qty)) := by
  unfold cutR
  rw [h, if_pos hi]

/-- A cell of a row of orders. -/
theorem row_cell {w : World} {base k n c j : Nat} {T : TypeId} {M : List Od} (h : w.ownsRow base T 6 (.slice (some ⟨k, 0, none⟩) n c) n (ol M)) (hj : j < n * 6) : ∃ v, w.cell? ⟨k, j, none⟩ = some v ∧ w.frozen? ⟨k, j, none⟩ = false := by
  have hl := h.1
  rcases h.2 with ⟨e, _⟩ | ⟨k', cap, cur, hv, _, hk, _⟩
  · cases e
  · injection hv with e1 e2 e3
    injection e1 with e1
    injection e1 with e1 _ _
    subst e1
    obtain ⟨g, e4, _, _, _, h5⟩ := row_cells h (by omega)
    injection e4 with e4
    injection e4 with e4 _ _
    subst e4
    exact ⟨_, h5 j _ (List.getElem?_eq_getElem (by omega)), frozen_of_row _ _ _ _ _ hk⟩
theorem row_six {w : World} {base k n c i : Nat} {T : TypeId} {M : List Od} {x : Od} (h : w.ownsRow base T 6 (.slice (some ⟨k, 0, none⟩) n c) n (ol M)) (hi : i < n) (hx : M[i]! = x) (hM : M.length = n) : x.at w k (i * 6) ∧ w.frozen? ⟨k, i * 6, none⟩ = false ∧ w.frozen? ⟨k, i * 6 + 1, none⟩ = false ∧ w.frozen? ⟨k, i * 6 + 2, none⟩ = false ∧ w.frozen? ⟨k, i * 6 + 3, none⟩ = false ∧ w.frozen? ⟨k, i * 6 + 4, none⟩ = false ∧ w.frozen? ⟨k, i * 6 + 5, none⟩ = false := by
  have f : ∀ j, j < n * 6 → w.frozen? ⟨k, j, none⟩ = false := fun j hj => by obtain ⟨_, _, h2⟩ := row_cell h hj; exact h2
  refine ⟨?_, f _ (by omega), f _ (by omega), f _ (by omega), f _ (by omega), f _ (by omega), f _ (by omega)⟩
  obtain ⟨A, c', hv, hq⟩ := own_que h
  injection hv with e1 _ _
  subst e1
  rcases hq.2 with h0 | ⟨g, h1, _, h3⟩
  · omega
  · injection h1 with h1
    injection h1 with h1 _ _
    subst h1
    rw [← hx]
    exact h3 i hi
theorem infoRc (x : Od) : (Try.prog.info? 50).map (·.size) = some (OC x).size := infoRo
theorem storeO {ops : Array Oper} {rest : List Oper} {o : Oper} {a : Act} {w : World} {Q : Exit → Act → World → Prop} (hgd : o.guard = none) (x y : Operand) (ho : o.op = .store 50 x y) (k f : Nat) (z : Od) (hx : a.eval x = .pointer (some ⟨k, f, none⟩)) (hy : a.eval y = .agg (OC z))
    (base n c i : Nat) (T : TypeId) (M : List Od) (hown : w.ownsRow base T 6 (.slice (some ⟨k, 0, none⟩) n c) n (ol M)) (hi : i < n) (hM : M.length = n) (hf : f = i * 6)
    (h : ∀ w', w'.ownsRow base T 6 (.slice (some ⟨k, 0, none⟩) n c) n (ol (M.set i z)) → (∀ j, j ≠ k → w'.heap[j]? = w.heap[j]?) → (∀ B, B ≤ k → Below B w w') → wpList Try.prog ops Q rest (a.put o.dst undef) w') : wpList Try.prog ops Q (o :: rest) a w := by
  subst hf
  have ht : w.there k (i * 6) 6 := by
    intro j hj
    obtain ⟨v, h1, h2⟩ := row_cell hown (j := i * 6 + j) (by omega)
    exact ⟨by rw [h1]; rfl, h2⟩
  have h1 : (OC z).all (·.oneCell') = true := all_oneCell_toArray (cs := encO z) (enc_one z)
  refine wpList_store_mid hgd _ x y ho k (i * 6) (OC z) hx hy ht (infoRc z) h1 ?_
  refine h (put6o w k (i * 6) z) (own_put6o z hown (by omega)) (fun j hj => put6o_far w _ z hj) (fun B hB => ?_)
  unfold put6o
  exact ((((((Below.refl B w).setCell (p := ⟨k, i * 6, none⟩) hB _).setCell (p := ⟨k, i * 6 + 1, none⟩) hB _).setCell (p := ⟨k, i * 6 + 2, none⟩) hB _).setCell (p := ⟨k, i * 6 + 3, none⟩) hB _).setCell (p := ⟨k, i * 6 + 4, none⟩) hB _).setCell (p := ⟨k, i * 6 + 5, none⟩) hB _
set_option maxHeartbeats 4000000 in
set_option maxRecDepth 100000 in
theorem rCut_c (wb : Nat) (id qty : Int) (M : List Od) (w : World) (H : RB w wb M) (hn : M.length ≤ 1000) (hq : ∀ x ∈ M, x.qty ≤ 1099511627776) :
    Calls Try.prog 23 #[.pointer (some ⟨wb, 0, none⟩), .int .u64 id, .int .i64 qty] w fun e w' => e = .returned (.int .i64 (cutR id qty M).1) ∧ Hid (RB w' wb (cutR id qty M).2 ∧ Fr (fun k => k = wb) w w') := by
  have HRB := Lib.hid H
  obtain ⟨A, c, hwb, HR⟩ := rb_read H
  have HAt : Hid (Calls Try.prog 39 #[.pointer (some ⟨wb, 0, none⟩), .int .u64 id] w fun e w' => e = .returned (.int .i64 (atI id M)) ∧ w = w') := Lib.hid ((rAt_c wb id M _ H hn).mono fun _ _ h => ⟨h.1, h.2.symm⟩)
  rcases atI_get (id := id) (M := M) with ⟨i, hii, hi, ha, hg⟩ | ⟨ha, hg⟩
  · rw [ha] at HAt
    rw [cutR_some hii hi]
    obtain ⟨_, c0, hx⟩ := HR.out w (Below.refl _ _)
    obtain ⟨g, rfl, x0, x1, x2, x3, x4, x5⟩ := hx i hi
    have hqx := hq M[i]! (by rw [getElem!_pos M i hi]; exact List.getElem_mem hi)
    obtain ⟨x, ex⟩ : ∃ x, M[i]! = x := ⟨_, rfl⟩
    rw [ex] at x0 x1 x2 x3 x4 x5 hqx ⊢
    obtain ⟨n, hl⟩ : ∃ n, M.length = n := ⟨_, rfl⟩
    have HM := Lib.hid hl
    have HI := Lib.hid (And.intro hii hi)
    rw [hl] at c0 hi hn HR
    have hiI : (i : Int) < (n : Int) := by omega
    have hi0 : (0 : Int) ≤ (i : Int) := by omega
    have hi1 : decide ((i : Int) < 0) = false := decide_eq_false (by omega)
    have HW1 : Hid (∀ y : Od, Below w.heap.size w (w.alloc (.cells (OC y) 50))) := Lib.hid (fun y => (Below.refl _ _).alloc (Nat.le_refl _) _)
    have HSM : Hid (∀ w', Below w.heap.size w w' → RB w' wb M ∧ Fr (fun k => k = wb) w w') := Lib.hid (fun w' hb => ⟨rb_low HRB.out hb, Fr.of_below hb⟩)
    clear hx ha hg hii hl H hq
    by_cases q1 : qty < 1
    · rw [if_pos (.inl q1)]
      have q2 : decide (qty < 1) = true := decide_eq_true q1
      clear ex
      go_enter Try.func23, Try.ntmps23
      go_wp2_with ((with_reducible refine HAt.out.mono ?_); rintro e w1 ⟨rfl, rfl⟩)
      go_ret
      exact ⟨rfl, Lib.hid (HSM.out _ (HW1.out x))⟩
    have q2 : decide (qty < 1) = false := decide_eq_false q1
    by_cases q3 : x.qty < qty
    · rw [if_pos (.inr q3)]
      have q4 : decide (x.qty < qty) = true := decide_eq_true q3
      clear ex
      go_enter Try.func23, Try.ntmps23
      go_wp2_with ((with_reducible refine HAt.out.mono ?_); rintro e w1 ⟨rfl, rfl⟩)
      go_ret
      exact ⟨rfl, Lib.hid (HSM.out _ (HW1.out x))⟩
    have q4 : decide (x.qty < qty) = false := decide_eq_false q3
    rw [if_neg (by omega)]
    by_cases q5 : qty = x.qty
    · rw [if_pos q5]
      have q6 : (qty == x.qty) = true := by simp [q5]
      have HT := Lib.hid (rTake_c wb id M (w.alloc (.cells (OC x) 50)) (rb_low HRB.out (HW1.out x)) (by rw [HM.out]; exact hn))
      clear ex q5 q3
      go_enter Try.func23, Try.ntmps23
      go_wp2_with (first | ((with_reducible refine HAt.out.mono ?_); rintro e w1 ⟨rfl, rfl⟩) | ((with_reducible refine HT.out.mono ?_); rintro e w2 ⟨rfl, ht⟩))
      go_ret
      refine ⟨rfl, Lib.hid ?_⟩
      have h := ht.out
      unfold RTk at h
      rw [HI.out.1] at h
      exact ⟨h.1, (Fr.of_below (HW1.out x) : Fr (fun k => k = wb) _ _).trans h.2 (fun k hk => .inl hk)⟩
    · rw [if_neg q5]
      have q6 : (qty == x.qty) = false := by simp [q5]
      have q7 : IntKind.i64.wrap (x.qty - qty) = x.qty - qty := by rw [IntKind.wrap_i64]; omega
      have HX := Lib.hid ex
      obtain ⟨W3, hW3⟩ : ∃ W3, (w.alloc (.cells #[.int .u64 x.id, .int .i64 x.acc, .int .i64 x.side, .int .i64 x.price, .int .i64 (x.qty - qty), .int .u64 x.seq] 50)).alloc (.cells #[] 50) = W3 := ⟨_, rfl⟩
      have B3 : Below w.heap.size w W3 := by rw [← hW3]; exact ((Below.refl _ _).alloc (Nat.le_refl _) _).alloc (by simp) _
      have hE : W3.ownsRow w.heap.size 50 6 (.slice (some ⟨w.heap.size + 1, 0, none⟩) 0 0) 0 (ol []) := by
        rw [← hW3]; exact ⟨rfl, .inr ⟨_, 0, #[], rfl, by omega, hd_last (by simp), Nat.le_refl _, Nat.zero_le _, rfl, rfl⟩⟩
      have hX7 : Cl 50 W3 w.heap.size (OC (lessO x qty)) := by rw [← hW3]; exact hd_prev (by simp) (hd_last rfl)
      have c3 := (HR.out _ B3).2.1
      have HA1 : Hid (∃ k c' w', (Builtin.append_ #[46, 46] 46 #[.slice (some ⟨w.heap.size + 1, 0, none⟩) 0 0, .slice (some ⟨g, 0, none⟩) n c]).run Try.prog W3 = .ok (.slice (some ⟨k, 0, none⟩) n c') w' ∧ w'.ownsRow w.heap.size 50 6 (.slice (some ⟨k, 0, none⟩) n c') n (ol M) ∧ Below w.heap.size w w' ∧ Cl 50 w' w.heap.size (OC (lessO x qty)) ∧ w.heap.size < k) := Lib.hid (by
        obtain ⟨A', c', h1, h2⟩ := rb_low HRB.out B3
        have e0 := (HR.out W3 B3).1
        have e1 : some (Obj.cells #[.slice A' M.length c'] 48 (0, 0)) = some (.cells #[.slice (some ⟨g, 0, none⟩) n c] 48 (0, 0)) := h1.symm.trans e0
        injection e1 with e1
        injection e1 with e1
        injection e1 with e1
        injection e1 with e1 _
        injection e1 with e2 e3 e4
        subst e2 e4
        rw [HM.out] at h2
        obtain ⟨v', w', h3, h4, h5, h6⟩ := run_app W3 w.heap.size 46 _ 0 _ hE _ n c' M h2 (by omega) B3.size
        rw [Nat.zero_add, show ol [] = [] from rfl, List.nil_append] at h4
        obtain ⟨A2, k2, rfl, _⟩ := own_que2 h4
        obtain ⟨k, rfl, hk1, _⟩ := row_cells h4 (by omega)
        have hz : W3.heap.size = w.heap.size + 2 := by rw [← hW3]; simp
        refine ⟨k, k2, w', h3, h4, below_own B3 hE h5, (h5.block _ (blk_lt hX7) (by simp [Value.ownBlock])).trans hX7, ?_⟩
        rcases h6 with h6 | h6 <;> (simp [Value.ownBlock] at h6; omega))
      clear hE hX7 B3 q3 q5 ex
      go_enter Try.func23, Try.ntmps23
      go_wp2_with (first | ((with_reducible refine HAt.out.mono ?_); rintro e w1 ⟨rfl, rfl⟩) | (at_builtin; obtain ⟨k, c', y1, hr1, h1⟩ := HA1.out; refine wpL_append rfl _ _ 46 rfl _ _ rfl rfl hr1 ?_; have cy := (HR.out _ h1.2.1).2.1; obtain ⟨t0, t1, t2, t3, t4, t5⟩ := six_of h1.2.2.1; have HY := Lib.hid h1; clear HA1 h1 hr1 hW3 c3) | ((with_reducible apply storeO (z := lessO x qty) (i := i) (M := M)); rfl; rfl; rfl; rfl; exact HY.out.1; exact hi; exact HM.out; rfl; skip))
      intro w5 o5 q5 b5
      obtain ⟨h1, h2, h3, h4⟩ := HY.out
      have B5 : Below w.heap.size w w5 := h2.trans (b5 _ (by omega))
      have z0 : Cl 48 w5 wb #[.slice (some ⟨g, 0, none⟩) n c] := (HR.out _ B5).1
      have z1 := (HR.out _ B5).2.1
      have z2 := z0.f (k := 0)
      have HF : Hid (RB (w5.setCell ⟨wb, 0, none⟩ (.slice (some ⟨k, 0, none⟩) n c')) wb (M.set i (lessO x qty)) ∧ Fr (fun k => k = wb) w (w5.setCell ⟨wb, 0, none⟩ (.slice (some ⟨k, 0, none⟩) n c'))) := Lib.hid (by
        have hl : (M.set i (lessO x qty)).length = n := by rw [List.length_set]; exact HM.out
        refine ⟨⟨some ⟨k, 0, none⟩, c', ?_, ?_⟩, Fr.set (S := fun k => k = wb) (Fr.of_below B5) (p := ⟨wb, 0, none⟩) (.inl rfl) _⟩
        · rw [hl]; exact (heap_set z0).trans rfl
        · rw [hl]
          refine own_base (own_fr o5 (S := fun k => k = wb) ((Fr.refl (fun k => k = wb) w5).set (p := ⟨wb, 0, none⟩) (.inl rfl) _) (fun k2 hk e => ?_)) (Nat.zero_le _)
          injection hk with hk
          have hk' : k = k2 := hk
          omega)
      clear o5 q5 b5 h1 h2 h3 HY B5 z0
      go_wp2_with fail
      go_ret
      exact ⟨rfl, HF⟩
  · rw [ha] at HAt
    have hc : cutR id qty M = (51, M) := by
      unfold cutR
      rw [if_neg]
      intro h
      unfold getO at hg
      rw [if_pos h] at hg
      cases hg
    rw [hc]
    clear ha hg hc HR hq H
    go_enter Try.func23, Try.ntmps23
    go_wp2_with ((with_reducible refine HAt.out.mono ?_); rintro e w1 ⟨rfl, rfl⟩)
    go_ret
    exact ⟨rfl, Lib.hid ⟨HRB.out, Fr.refl _ _⟩⟩
end Go.Proofs.Ytgbmgdffgmablaa

/- The reference's book: Level, Prices. -/
namespace Go.Proofs.Ytgbmgdffgmablaa
open Go.RowKit Go.Shelf Go.Sort Go.Maps Go.Lib
set_option linter.unusedVariables false

/-- All of a side and a price. -/
def levL (sd p : Int) (M : List Od) : List Od := M.filter (fun x => x.side == sd && x.price == p)
theorem levL_snoc {sd p : Int} {M : List Od} {i : Nat} (hi : i < M.length) : levL sd p (M.take (i + 1)) = if ((M[i]!).side == sd && (M[i]!).price == p) = true then levL sd p (M.take i) ++ [M[i]!] else levL sd p (M.take i) := by
  unfold levL
  rw [List.take_succ_eq_append_getElem hi, List.filter_append, getElem!_pos M i hi, List.filter_cons]
  split <;> simp
theorem levL_len (sd p : Int) (M : List Od) : (levL sd p M).length ≤ M.length := List.length_filter_le _ _

set_option maxHeartbeats 4000000 in
set_option maxRecDepth 100000 in
theorem rLevel_c (wb : Nat) (sd p : Int) (M : List Od) (w : World) (H : RB w wb M) (hn : M.length ≤ 1000) :
    Calls Try.prog 44 #[.pointer (some ⟨wb, 0, none⟩), .int .i64 sd, .int .i64 p] w fun e w' => ∃ v, e = .returned v ∧ Hid (w'.ownsRow w.heap.size 50 6 v (levL sd p M).length (ol (levL sd p M)) ∧ Below w.heap.size w w') := by
  obtain ⟨i0, hi0, hz0, hz1, hz2⟩ := info_parts info_ro
  obtain ⟨A, c, hwb, HR⟩ := rb_read H
  obtain ⟨n, hl⟩ : ∃ n, M.length = n := ⟨_, rfl⟩
  have HM := Lib.hid hl
  rw [hl] at hn HR
  have c0 := (HR.out w (Below.refl _ _)).2.1
  clear H hl
  go_enter Try.func44, Try.ntmps44
  go_wp2_with fail
  clear c0
  go_loopg [7, 8] n (fun kx v s8 wr => ∃ k : Nat, s8 = .int .i64 k ∧ k ≤ n ∧ n - k ≤ kx ∧ Aside (wr.ownsRow w.heap.size 50 6 v (levL sd p (M.take k)).length (ol (levL sd p (M.take k)))) ∧ Hid (Below w.heap.size w wr))
  case atStart => exact ⟨0, rfl, by omega, by omega, World.ownsRow_nil _ _ _ _, Lib.hid (Below.refl _ _)⟩
  case round =>
    obtain ⟨k, rfl, hk, hkx, hown, hd⟩ := hrel
    have c0 := (HR.out _ hd.out).2.1
    by_cases hlt : k < n
    · have hltI : (k : Int) < (n : Int) := by omega
      have hk0 : (0 : Int) ≤ (k : Int) := by omega
      obtain ⟨g, rfl, x0, x1, x2, x3, x4, x5⟩ := (HR.out _ hd.out).2.2 k hlt
      have hs := Lib.hid (levL_snoc (sd := sd) (p := p) (M := M) (i := k) (by rw [HM.out]; exact hlt))
      have hll := levL_len sd p (M.take k)
      rw [List.length_take] at hll
      obtain ⟨x, ex⟩ : ∃ x, M[k]! = x := ⟨_, rfl⟩
      rw [ex] at x0 x1 x2 x3 x4 x5 hs
      have hw9 : IntKind.i64.wrap ((k : Int) + 1) = ((k + 1 : Nat) : Int) := by rw [IntKind.wrap_i64]; omega
      clear ex
      by_cases e1 : x.side = sd
      · have f1 : (x.side == sd) = true := by simp [e1]
        by_cases e2 : x.price = p
        · have f2 : (x.price == p) = true := by simp [e2]
          have HS : Hid (levL sd p (M.take (k + 1)) = levL sd p (M.take k) ++ [x]) := Lib.hid (by rw [hs.out, f1, f2]; rfl)
          have hbl : (levL sd p (M.take k)).length ≤ 1000 := by omega
          have hsz := hd.out.size
          have HW := Lib.hid hown.out
          clear hs e1 e2 hll hown
          go_wp2_with (at_builtin; refine wpList_append_own _ rfl _ _ 46 rfl w.heap.size 50 i0 (.agg (OC ⟨0, 0, 0, 0, 0, 0⟩)) 6 48 Try.underlying46 hi0 hz0 hz1 hz2 rfl (by decide) _ _ _ rfl (HW.out.alloc _) ⟨wr.heap.size, 0, none⟩ 1 1 (encO x) rfl rfl ?c1 ?c2 ?c3 ?c4 ?c5 ?_)
          case c1 => exact six_news _ x
          case c2 => exact enc_one x
          case c3 => unfold maxLen; omega
          case c4 => omega
          case c5 => simp; omega
          intro v1 w1 hown1 hg1 _
          have hB1 : Hid (Below w.heap.size w w1) := Below.grown (hd.out.alloc hsz _) hg1 (by simp; omega) (fun k hk => (HW.out.lt k hk).1)
          have hA1 : Aside (w1.ownsRow w.heap.size 50 6 v1 (levL sd p (M.take (k + 1))).length (ol (levL sd p (M.take (k + 1))))) := by
            rw [HS.out, List.length_append, ol_append]; exact hown1
          clear hg1 hown1 HW hd c0
          go_wp2_with fail
          go_roundg (n - (k + 1))
          case measure => omega
          case rel => exact ⟨k + 1, by go_num, by omega, by omega, hA1, hB1⟩
        · have f2 : (x.price == p) = false := by simp [e2]
          have HS : Hid (levL sd p (M.take (k + 1)) = levL sd p (M.take k)) := Lib.hid (by rw [hs.out, f1, f2]; rfl)
          have hA1 := hown
          rw [← HS.out] at hA1
          clear hs e1 e2 hll hown
          go_wp2_with fail
          go_roundg (n - (k + 1))
          case measure => omega
          case rel => exact ⟨k + 1, by go_num, by omega, by omega, hA1, hd⟩
      · have f1 : (x.side == sd) = false := by simp [e1]
        have HS : Hid (levL sd p (M.take (k + 1)) = levL sd p (M.take k)) := Lib.hid (by rw [hs.out, f1]; rfl)
        have hA1 := hown
        rw [← HS.out] at hA1
        clear hs e1 hll hown
        go_wp2_with fail
        go_roundg (n - (k + 1))
        case measure => omega
        case rel => exact ⟨k + 1, by go_num, by omega, by omega, hA1, hd⟩
    · have hltI : ¬ (k : Int) < (n : Int) := by omega
      have h := hown.out
      rw [List.take_of_length_le (by rw [HM.out]; omega)] at h
      have hF := Lib.hid (And.intro h hd.out)
      clear hown h
      go_wp2_with fail
      go_ret
      exact ⟨_, rfl, hF⟩

theorem side_snoc {sd : Int} {M : List Od} {i : Nat} (hi : i < M.length) : sideL sd (M.take (i + 1)) = if ((M[i]!).side == sd) = true then sideL sd (M.take i) ++ [M[i]!] else sideL sd (M.take i) := by
  unfold sideL
  rw [List.take_succ_eq_append_getElem hi, List.filter_append, getElem!_pos M i hi, List.filter_cons]
  split <;> simp
theorem prs_snoc (L : List Od) (x : Od) : prs (L ++ [x]) = if (prs L).getLast? = some x.price then prs L else prs L ++ [x.price] := by
  unfold prs
  rw [List.foldl_append]
  rfl
theorem prs_len (L : List Od) : (prs L).length ≤ L.length := by
  unfold prs
  have key : ∀ (L : List Od) (out : List Int), (L.foldl prF out).length ≤ out.length + L.length := by
    intro L
    induction L with
    | nil => intro out; simp
    | cons x L ih =>
      intro out
      rw [List.foldl_cons]
      refine Nat.le_trans (ih _) ?_
      unfold prF
      split <;> simp <;> omega
  simpa using key L []
/-- Numbers in a row of the call's own. -/
def iV (l : List Int) : List Value := l.map (fun p => .int .i64 p)
theorem iV_len (l : List Int) : (iV l).length = l.length := List.length_map ..
theorem iV_snoc (l : List Int) (x : Int) : iV (l ++ [x]) = iV l ++ [.int .i64 x] := by unfold iV; rw [List.map_append]; rfl
theorem last_at {w : World} {base n : Nat} {v : Value} {l : List Int} (h : w.ownsRow base 2 1 v n (iV l)) (hl : l ≠ []) : ∃ g c y, v = .slice (some ⟨g, 0, none⟩) n c ∧ l.length = n ∧ l.getLast? = some y ∧ w.cell? ⟨g, n - 1, none⟩ = some (.int .i64 y) := by
  obtain ⟨A, c, rfl, h1, h2⟩ := ints_at h
  have hn : 0 < n := by rw [← h1]; exact List.length_pos_iff.2 hl
  rcases h2 with h0 | ⟨g, rfl, h3⟩
  · omega
  · refine ⟨g, c, l[n - 1]!, rfl, h1, ?_, h3 (n - 1) (by omega)⟩
    rw [List.getLast?_eq_getElem?, h1, List.getElem?_eq_getElem (by omega), getElem!_pos l (n - 1) (by omega)]

set_option maxHeartbeats 4000000 in
set_option maxRecDepth 100000 in
theorem rPrices_c (wb : Nat) (sd : Int) (M : List Od) (w : World) (H : RB w wb M) (hn : M.length ≤ 1000) :
    Calls Try.prog 43 #[.pointer (some ⟨wb, 0, none⟩), .int .i64 sd] w fun e w' => ∃ v, e = .returned v ∧ Hid (w'.ownsRow w.heap.size 2 1 v (prs (sideL sd M)).length (iV (prs (sideL sd M))) ∧ Below w.heap.size w w') := by
  obtain ⟨i0, hi0, hz0, hz1, hz2⟩ := info_parts info_i64
  obtain ⟨A, c, hwb, HR⟩ := rb_read H
  obtain ⟨n, hl⟩ : ∃ n, M.length = n := ⟨_, rfl⟩
  have HM := Lib.hid hl
  rw [hl] at hn HR
  have c0 := (HR.out w (Below.refl _ _)).2.1
  clear H hl
  go_enter Try.func43, Try.ntmps43
  go_wp2_with fail
  clear c0
  go_loopg [5, 6] n (fun kx v s6 wr => ∃ k : Nat, s6 = .int .i64 k ∧ k ≤ n ∧ n - k ≤ kx ∧ Aside (wr.ownsRow w.heap.size 2 1 v (prs (sideL sd (M.take k))).length (iV (prs (sideL sd (M.take k))))) ∧ Hid (Below w.heap.size w wr))
  case atStart => exact ⟨0, rfl, by omega, by omega, World.ownsRow_nil _ _ _ _, Lib.hid (Below.refl _ _)⟩
  case round =>
    obtain ⟨k, rfl, hk, hkx, hown, hd⟩ := hrel
    have c0 := (HR.out _ hd.out).2.1
    by_cases hlt : k < n
    · have hltI : (k : Int) < (n : Int) := by omega
      have hk0 : (0 : Int) ≤ (k : Int) := by omega
      obtain ⟨g, rfl, x0, x1, x2, x3, x4, x5⟩ := (HR.out _ hd.out).2.2 k hlt
      have hs := Lib.hid (side_snoc (sd := sd) (M := M) (i := k) (by rw [HM.out]; exact hlt))
      have hll := prs_len (sideL sd (M.take k))
      have hl2 : (sideL sd (M.take k)).length ≤ k := Nat.le_trans (List.length_filter_le _ _) (by rw [List.length_take]; omega)
      obtain ⟨x, ex⟩ : ∃ x, M[k]! = x := ⟨_, rfl⟩
      rw [ex] at x0 x1 x2 x3 x4 x5 hs
      have hw9 : IntKind.i64.wrap ((k : Int) + 1) = ((k + 1 : Nat) : Int) := by rw [IntKind.wrap_i64]; omega
      obtain ⟨P, hP⟩ : ∃ P, P = prs (sideL sd (M.take k)) := ⟨_, rfl⟩
      rw [← hP] at hown hll
      have HPP := Lib.hid hP
      clear ex hP
      by_cases e1 : x.side = sd
      · have f1 : (x.side == sd) = true := by simp [e1]
        have HS : Hid (prs (sideL sd (M.take (k + 1))) = if P.getLast? = some x.price then P else P ++ [x.price]) := Lib.hid (by rw [hs.out, f1, if_pos rfl, prs_snoc, HPP.out])
        clear hs e1
        by_cases e2 : P = []
        · subst e2
          obtain ⟨A0, k0, rfl, _⟩ := own_que2 hown.out
          have HS2 : Hid (prs (sideL sd (M.take (k + 1))) = [] ++ [x.price]) := Lib.hid (by rw [HS.out]; rfl)
          have HAQ : Hid (∀ q, (wr.drewN q).ownsRow w.heap.size 2 1 (.slice A0 0 k0) 0 (iV []) ∧ Below w.heap.size w (wr.drewN q)) := Lib.hid (fun q => ⟨hown.out, below_drewN hd.out q⟩)
          have hbl : ([] : List Int).length ≤ 1000 := by simp
          clear HS hll hown hd
          go_wp2_with fail
          go_quiet (fail)
          have HW := Lib.hid (HAQ.out nq)
          have q0 : (wr.drewN nq).cell? ⟨wb, 0, none⟩ = some (.slice (some ⟨g, 0, none⟩) n c) := (HR.out _ HW.out.2).2.1
          have q3 : (wr.drewN nq).cell? ⟨g, k * 6 + 3, none⟩ = some (.int .i64 x.price) := x3
          clear HAQ x0 x1 x2 x3 x4 x5 c0
          generalize wr.drewN nq = wq at HW q0 q3 ⊢
          go_wp2_with (at_builtin; refine wpList_append_own _ rfl _ _ 40 rfl w.heap.size 2 i0 (.int .i64 0) 1 8 Try.underlying40 hi0 hz0 hz1 hz2 rfl (by decide) _ _ _ rfl (HW.out.1.alloc _) ⟨wq.heap.size, 0, none⟩ 1 1 [.int .i64 x.price] rfl rfl ?c1 ?c2 ?c3 ?c4 ?c5 ?_)
          case c1 =>
            intro j u hu
            match j, hu with
            | 0, hu => rw [addr_add, cell_of_row _ _ _ _ _ _ (heap_alloc_new wq _)]; simpa using hu
          case c2 => intro u hu; rw [List.mem_singleton.1 hu]; rfl
          case c3 => unfold maxLen; omega
          case c4 => omega
          case c5 => have := HW.out.2.size; simp; omega
          intro v1 w1 hown1 hg1 _
          have hB1 : Hid (Below w.heap.size w w1) := Below.grown (HW.out.2.alloc HW.out.2.size _) hg1 (by have := HW.out.2.size; simp; omega) (fun k hk => (HW.out.1.lt k hk).1)
          have hA1 : Aside (w1.ownsRow w.heap.size 2 1 v1 (prs (sideL sd (M.take (k + 1)))).length (iV (prs (sideL sd (M.take (k + 1)))))) := by
            rw [HS2.out, List.length_append, iV_snoc]; exact hown1
          clear hg1 hown1 HW
          go_wp2_with fail
          go_roundg (n - (k + 1))
          case measure => omega
          case rel => exact ⟨k + 1, by go_num, by omega, by omega, hA1, hB1⟩
        · obtain ⟨g2, c2, y, rfl, hm, hy, hcy⟩ := last_at hown.out e2
          have hm0 : 0 < P.length := List.length_pos_iff.2 e2
          obtain ⟨m, em⟩ : ∃ m, P.length = m := ⟨_, rfl⟩
          have HPl := Lib.hid em
          rw [em] at hm0 hll hcy hown ⊢
          have hmz : ((m : Int) == 0) = false := by simp; omega
          have hm1 : IntKind.i64.wrap ((m : Int) - 1) = ((m - 1 : Nat) : Int) := by rw [IntKind.wrap_i64]; omega
          have hm2 : ((m - 1 : Nat) : Int) < (m : Int) := by omega
          have hm3 : (0 : Int) ≤ ((m - 1 : Nat) : Int) := by omega
          have hm4 : (((m - 1 : Nat) : Int)).toNat = m - 1 := by omega
          have hm5 : (m : Int) - 1 = ((m - 1 : Nat) : Int) := by omega
          clear em hm
          by_cases e3 : y = x.price
          · have f3 : (y == x.price) = true := by simp [e3]
            have f4 : (y != x.price) = false := by simp [e3]
            have HS2 : Hid (prs (sideL sd (M.take (k + 1))) = P) := Lib.hid (by rw [HS.out, hy, e3, if_pos rfl])
            have hA1 : Aside (wr.ownsRow w.heap.size 2 1 (.slice (some ⟨g2, 0, none⟩) m c2) (prs (sideL sd (M.take (k + 1)))).length (iV (prs (sideL sd (M.take (k + 1)))))) := by rw [HS2.out, HPl.out]; exact hown.out
            clear e3 hy HS hown e2
            have HPQ : Hid ((prs (sideL sd (M.take (k + 1)))).length = m) := Lib.hid (by rw [HS2.out, HPl.out])
            go_wp2_with fail
            go_quiet (fail)
            have hA2 : Aside ((wr.drewN nq).ownsRow w.heap.size 2 1 (.slice (some ⟨g2, 0, none⟩) m c2) (prs (sideL sd (M.take (k + 1)))).length (iV (prs (sideL sd (M.take (k + 1)))))) := hA1.out
            have hB2 : Hid (Below w.heap.size w (wr.drewN nq)) := Lib.hid (below_drewN hd.out nq)
            clear hA1
            go_wp2_with fail
            go_roundg (n - (k + 1))
            case measure => omega
            case rel => exact ⟨k + 1, by go_num, by omega, by omega, hA2, hB2⟩
          · have f3 : (y == x.price) = false := by simp [e3]
            have f4 : (y != x.price) = true := by simp [e3]
            have HS2 : Hid (prs (sideL sd (M.take (k + 1))) = P ++ [x.price]) := Lib.hid (by rw [HS.out, hy, if_neg (fun h => e3 (by injection h))])
            clear e3 hy e2
            have HAQ : Hid (∀ q, (wr.drewN q).ownsRow w.heap.size 2 1 (.slice (some ⟨g2, 0, none⟩) m c2) m (iV P) ∧ Below w.heap.size w (wr.drewN q)) := Lib.hid (fun q => ⟨hown.out, below_drewN hd.out q⟩)
            have hbl : m ≤ 1000 := by omega
            clear HS hll hown hd
            go_wp2_with fail
            go_quiet (fail)
            have HW := Lib.hid (HAQ.out nq)
            have q0 : (wr.drewN nq).cell? ⟨wb, 0, none⟩ = some (.slice (some ⟨g, 0, none⟩) n c) := (HR.out _ HW.out.2).2.1
            have q3 : (wr.drewN nq).cell? ⟨g, k * 6 + 3, none⟩ = some (.int .i64 x.price) := x3
            clear HAQ x0 x1 x2 x3 x4 x5 c0
            generalize wr.drewN nq = wq at HW q0 q3 ⊢
            go_wp2_with (at_builtin; refine wpList_append_own _ rfl _ _ 40 rfl w.heap.size 2 i0 (.int .i64 0) 1 8 Try.underlying40 hi0 hz0 hz1 hz2 rfl (by decide) _ _ _ rfl (HW.out.1.alloc _) ⟨wq.heap.size, 0, none⟩ 1 1 [.int .i64 x.price] rfl rfl ?c1 ?c2 ?c3 ?c4 ?c5 ?_)
            case c1 =>
              intro j u hu
              match j, hu with
              | 0, hu => rw [addr_add, cell_of_row _ _ _ _ _ _ (heap_alloc_new wq _)]; simpa using hu
            case c2 => intro u hu; rw [List.mem_singleton.1 hu]; rfl
            case c3 => unfold maxLen; omega
            case c4 => omega
            case c5 => have := HW.out.2.size; simp; omega
            intro v1 w1 hown1 hg1 _
            have hB1 : Hid (Below w.heap.size w w1) := Below.grown (HW.out.2.alloc HW.out.2.size _) hg1 (by have := HW.out.2.size; simp; omega) (fun k hk => (HW.out.1.lt k hk).1)
            have hA1 : Aside (w1.ownsRow w.heap.size 2 1 v1 (prs (sideL sd (M.take (k + 1)))).length (iV (prs (sideL sd (M.take (k + 1)))))) := by
              rw [HS2.out, List.length_append, iV_snoc, HPl.out]; exact hown1
            clear hg1 hown1 HW
            go_wp2_with fail
            go_roundg (n - (k + 1))
            case measure => omega
            case rel => exact ⟨k + 1, by go_num, by omega, by omega, hA1, hB1⟩
      · have f1 : (x.side == sd) = false := by simp [e1]
        have HS : Hid (prs (sideL sd (M.take (k + 1))) = P) := Lib.hid (by rw [hs.out, f1, HPP.out]; rfl)
        have hA1 := hown
        rw [← HS.out] at hA1
        clear hs e1 hll hown
        go_wp2_with fail
        go_quiet (fail)
        have hA2 : Aside ((wr.drewN nq).ownsRow w.heap.size 2 1 _ (prs (sideL sd (M.take (k + 1)))).length (iV (prs (sideL sd (M.take (k + 1)))))) := hA1.out
        have hB2 : Hid (Below w.heap.size w (wr.drewN nq)) := Lib.hid (below_drewN hd.out nq)
        clear hA1
        go_wp2_with fail
        go_roundg (n - (k + 1))
        case measure => omega
        case rel => exact ⟨k + 1, by go_num, by omega, by omega, hA2, hB2⟩
    · have hltI : ¬ (k : Int) < (n : Int) := by omega
      have h := hown.out
      rw [List.take_of_length_le (by rw [HM.out]; omega)] at h
      have hF := Lib.hid (And.intro h hd.out)
      clear hown h
      go_wp2_with fail
      go_ret
      exact ⟨_, rfl, hF⟩
end Go.Proofs.Ytgbmgdffgmablaa

/- A book beside the reference's: plain. (By mkgyg.py, out of XPlB.) -/
namespace Go.Proofs.Ytgbmgdffgmablaa
open Go.RowKit Go.Shelf Go.Sort Go.Maps Go.Lib
set_option linter.unusedVariables false

/-- Both tell the same of an ID. -/
theorem get_same {id : Int} {M : List Od} {r : Option Od} (hi : M.Pairwise (fun x y => ¬ x.id = y.id)) (h : GetIs id M r) : r = getO id M := by
  unfold getO
  cases r with
  | none =>
    rw [if_neg]
    intro hl
    exact h _ (by rw [getElem!_pos M _ hl]; exact List.getElem_mem hl) (idx_get hl)
  | some x =>
    have hl := idx_some h.1 h.2
    rw [if_pos hl]
    congr 1
    exact ids_inj hi h.1 (by rw [getElem!_pos M _ hl]; exact List.getElem_mem hl) (h.2.trans (idx_get hl).symm)
theorem idx_of {id : Int} {M : List Od} {x : Od} (hi : M.Pairwise (fun x y => ¬ x.id = y.id)) (hx : x ∈ M) (he : x.id = id) : idxN id M < M.length ∧ M[idxN id M]! = x := by
  have hl := idx_some hx he
  exact ⟨hl, ids_inj hi (by rw [getElem!_pos M _ hl]; exact List.getElem_mem hl) hx ((idx_get hl).trans he.symm)⟩
theorem get_some {id : Int} {M : List Od} {x : Od} (hi : M.Pairwise (fun x y => ¬ x.id = y.id)) (hx : x ∈ M) (he : x.id = id) : getO id M = some x := by
  obtain ⟨h1, h2⟩ := idx_of hi hx he
  unfold getO
  rw [if_pos h1, h2]
theorem get_none {id : Int} {M : List Od} (h : ∀ x ∈ M, ¬ x.id = id) : getO id M = none := by
  unfold getO
  rw [if_neg]
  intro hl
  exact h _ (by rw [getElem!_pos M _ hl]; exact List.getElem_mem hl) (idx_get hl)
theorem erase_none {id : Int} {M : List Od} (h : ∀ x ∈ M, ¬ x.id = id) : M.eraseIdx (idxN id M) = M := by
  rw [idx_none h]; exact List.eraseIdx_of_length_le (Nat.le_refl _)
end Go.Proofs.Ytgbmgdffgmablaa

/- grove: Clone: a range over the orders' map, in whatever order. -/
namespace Go.Proofs.Ytgbmgdffgmablaa
open Go.RowKit Go.Sort Go.Lib Go.Maps Go.Shelf
set_option linter.unusedVariables false

theorem ranges_fr {S : Nat → Prop} {w w' : World} {P : Program} {K : TypeId} {R : Value → Option (DataW Value × List MemPlace)} {b r n cnt : Nat} {D : DataW Value} {left : Lit → Bool} (h : w.ranges P K R b r n D left cnt) (hf : Fr S w w') (hb' : ¬ S b) (hr' : ¬ S r) : w'.ranges P K R b r n D left cnt := by
  have h1 := h.owns.lt
  have h2 := h.lt
  obtain ⟨es, clock, since, seen, c0, hb, F, hs, hD, hr, rest⟩ := h
  exact ⟨es, clock, since, seen, c0, (hf.block b h1 hb').trans hb, F, hs, hD, (hf.block r h2 hr').trans hr, rest⟩
theorem same_u {a b : Int} : (Lit.int .u64 a).sameKey (.int .u64 b) = decide (a = b) := by
  simp [Lit.sameKey]
/-- What Clone's loop leaves: those whose IDs have come are in the new book. -/
structure gClI (w wr : World) (q : Nat) (m' : Nat × Nat) (t1 t2 : Gd) (b r : Nat) (D : DataW Value) (left : Lit → Bool) (cnt : Nat) (L : List Od) : Prop where
  wh : gWhole wr q m' t1 t2
  mem : ∀ x, x ∈ bookL t1.rs t2.rs ↔ x ∈ L ∧ left (.int .u64 x.id) = false
  len : (bookL t1.rs t2.rs).length + cnt ≤ 64
  rg : wr.ranges Try.prog 22 RV b r 64 D left cnt
  lf : ∀ id, left (.int .u64 id) = true → ∃ x ∈ L, x.id = id
  nr : ¬ gft q m' t1 t2 r
  nb : b < w.heap.size
  rlo : w.heap.size ≤ r
  be : Below w.heap.size w wr
  lo : ∀ j, gft q m' t1 t2 j → w.heap.size ≤ j
section
variable {w wr w' : World} {q b r cnt cnt' : Nat} {m' : Nat × Nat} {t1 t2 t1' t2' : Gd} {D : DataW Value} {left left' : Lit → Bool} {L : List Od}
/-- An order has come, and gone in. -/
theorem gClI.put {w2 : World} {x : Od} (h : gClI w wr q m' t1 t2 b r D left cnt L) (hi : Ids L) (hx : x ∈ L) (hl : left (.int .u64 x.id) = true) (hg : wr.grownBy w2 (some r)) (hrg : w2.ranges Try.prog 22 RV b r 64 D (fun z => left z && !z.sameKey (.int .u64 x.id)) cnt') (hlt : cnt' < cnt)
    (hP : gPutIs w2 w' q m' t1 t2 t1' t2' x) : gClI w w' q m' t1' t2' b r D (fun z => left z && !z.sameKey (.int .u64 x.id)) cnt' L := by
  have f2 := fr_grown hg
  have hsz := f2.size
  have be2 : Below w.heap.size w w2 := h.be.trans (f2.below (fun j hj => by rw [hj]; exact h.rlo) h.be.size)
  have hbl : ¬ gft q m' t1 t2 b := fun hb => by have := h.lo b hb; have := h.nb; omega
  refine ⟨hP.tu.wh, fun y => ?_, ?_, ranges_fr hrg hP.tu.fr hbl h.nr, fun id hid => h.lf id ?_, fun hf => ?_, h.nb, h.rlo, be2.trans (hP.tu.fr.below h.lo be2.size), fun j hj => ?_⟩
  · rw [hP.perm.mem_iff, List.mem_cons, h.mem, same_u]
    constructor
    · rintro (rfl | ⟨h1, h2⟩)
      · exact ⟨hx, by simp⟩
      · exact ⟨h1, by rw [h2]; rfl⟩
    · rintro ⟨h1, h2⟩
      by_cases e : y.id = x.id
      · exact .inl (ids_eq hi h1 hx e)
      · refine .inr ⟨h1, ?_⟩
        rw [decide_eq_false e] at h2
        simpa using h2
  · rw [hP.perm.length_eq, List.length_cons]
    have := h.len
    omega
  · have : (left (.int .u64 id) && !(Lit.int .u64 id).sameKey (.int .u64 x.id)) = true := hid
    rw [Bool.and_eq_true] at this
    exact this.1
  · rcases hP.tu.ft r hf with h' | h'
    · exact h.nr h'
    · have := h.rg.lt; omega
  · rcases hP.tu.ft j hj with h' | h'
    · exact h.lo j h'
    · exact Nat.le_trans be2.size h'
end
/-- Another book that has the same. -/
structure gCloneIs (w w' : World) (p : Nat) (m : Nat × Nat) (t1 t2 : Gd) (L : List Od) : Prop where
  wh : gWhole w' p m t1 t2
  eq : bookL t1.rs t2.rs = L
  be : Below w.heap.size w w'
  lo : ∀ j, gft p m t1 t2 j → w.heap.size ≤ j
def gClEnd (w : World) (L : List Od) (e : Ending) (w' : World) : Prop := ∃ q m' t1 t2, e = .returned (.pointer (some ⟨q, 0, none⟩)) ∧ Hid (gCloneIs w w' q m' t1 t2 L)
theorem gWhole.gw {w : World} {p : Nat} {m : Nat × Nat} {s1 s2 : Gd} (h : gWhole w p m s1 s2) : ∃ D, w.ownsMap Try.prog 22 RV m.1 64 D ∧ OmT D (bookL s1.rs s2.rs) := by
  obtain ⟨D, h⟩ := h
  exact ⟨D, h.gk.om _ _ rfl, h.om⟩
theorem gWhole.cell0 {w : World} {p : Nat} {m : Nat × Nat} {s1 s2 : Gd} (h : gWhole w p m s1 s2) : w.cell? ⟨p, 0, none⟩ = some (.map (some m.1)) := by
  obtain ⟨D, h⟩ := h
  exact (h.bookp.c 0).trans rfl
theorem gWhole.look {w : World} {p : Nat} {m : Nat × Nat} {s1 s2 : Gd} (h : gWhole w p m s1 s2) {x : Od} (hx : x ∈ bookL s1.rs s2.rs) : (Instr.lookup 26 (.map (some m.1)) (.int .u64 x.id) false).run Try.prog w = .ok (.agg (OC x)) w := by
  obtain ⟨D, G⟩ := h
  have := look_o (G.gk.om _ _ rfl) G.om x.id (wf_u (G.ok x hx).1.1)
  rw [(omL_some G.ids).2 ⟨hx, rfl⟩] at this
  exact this
set_option maxHeartbeats 4000000 in
set_option maxRecDepth 100000 in
theorem gClone_c (p : Nat) (m : Nat × Nat) (s1 s2 : Gd) (w : World) (H : gWhole w p m s1 s2) :
    Calls Try.prog 16 #[.pointer (some ⟨p, 0, none⟩)] w (gClEnd w (bookL s1.rs s2.rs)) := by
  have HM : Hid (Calls Try.prog 25 #[.pointer (some ⟨p, 0, none⟩)] w fun e w' => e = .returned (.bool true) ∧ w = w') := Lib.hid (by obtain ⟨D, h⟩ := H; exact gMade_c _ _ _ _ _ _ h.gk)
  have HN := Lib.hid (gNew_is w)
  have HW := Lib.hid H
  have hids : Hid (Ids (bookL s1.rs s2.rs)) := Lib.hid (by obtain ⟨D, h⟩ := H; exact h.ids)
  obtain ⟨L, hL⟩ : ∃ L, bookL s1.rs s2.rs = L := ⟨_, rfl⟩
  have HL := Lib.hid hL
  have hm1 : m.1 < w.heap.size := gft.lt H _ (.inr (.inl rfl))
  have HM1 := Lib.hid hm1
  rw [hL]
  clear H hL hm1
  go_enter Try.func16, Try.ntmps16
  go_wp2_with ((with_reducible refine HM.out.mono ?_); rintro e w1 ⟨rfl, rfl⟩)
  ((with_reducible refine HN.out.mono ?_); rintro e w1 ⟨q, m', z1, z2, rfl, hN⟩)
  have HW1 := HW.out.below hN.out.be
  obtain ⟨D, hown, hOm⟩ := HW1.gw
  have hc0 := HW1.cell0
  have hOmH := Lib.hid hOm
  clear HW1 HM HN hOm
  go_wp2_with (first | (at_range; refine wpList_range_own _ rfl _ 26 rfl 22 24 keyU Try.underlying26 RV m.1 64 D rfl hown ?_; intro w0 hrg0 hg0 hs0) | go_in)
  go_frame
  obtain ⟨r, hr⟩ : ∃ r, w1.heap.size = r := ⟨_, rfl⟩
  have HI0 : Hid (gClI w w0 q m' z1 z2 m.1 r D (Maps.has D) (Maps.size D) L) := Lib.hid (by
    have b0 : Below w1.heap.size w1 w0 := ⟨hg0.os, hg0.tape, hg0.output, hg0.size, fun k hk => hg0.block k hk (by simp)⟩
    have hs := hN.out.be.size
    have hm1 := HM1.out
    subst hr
    refine ⟨hN.out.wh.below b0, fun x => ⟨fun h => ?_, fun h => ?_⟩, ?_, hrg0, fun id hid => ?_, fun h => ?_, hm1, hs, hN.out.be.trans (b0.mono hs), hN.out.lo⟩
    · rw [hN.out.nil] at h; cases h
    · obtain ⟨h1, h2⟩ := h
      rw [hOmH.out.has, (omL_some hids.out).2 ⟨by rw [HL.out]; exact h1, rfl⟩] at h2
      cases h2
    · rw [hN.out.nil, hOmH.out.size]
      have := HW.out.len
      simp only [List.length_nil]
      omega
    · rw [hOmH.out.has] at hid
      cases hf : omL (bookL s1.rs s2.rs) id with
      | none => rw [hf] at hid; cases hid
      | some x => have := (omL_some hids.out).1 hf; rw [HL.out] at this; exact ⟨x, this⟩
    · have := gft.lt hN.out.wh _ h; omega)
  rw [hr] at hrg0
  rw [hr]
  clear hg0 hs0 hrg0 hN hown hc0
  clear hr
  go_loopw [4] (fun _ wr => ∃ (left : Lit → Bool) (cnt : Nat) (t1 t2 : Gd), Hid (gClI w wr q m' t1 t2 m.1 r D left cnt L)) (fun _ wr => wr.rangeLeft m.1 r)
  case atStart => exact ⟨_, _, z1, z2, HI0⟩
  case round =>
    clear HI0
    obtain ⟨left, cnt, t1, t2, HI⟩ := hrel
    have hrg := HI.out.rg
    go_wp2_with (first
      | (at_next; refine wpList_next_ranges _ rfl _ rfl 22 keyU RV (Value.int .u64) (fun v => v) (fun key kl hk => by obtain ⟨x, hx, _⟩ := Maps.keyOf_int_inv Try.underlying22 hk; exact ⟨x, hx⟩) (fun v y hv => ⟨v, rfl⟩) m.1 r 64 D _ _ rfl hrg ?_ ?_)
      | go_in)
    · intro hc0 hl0
      go_wp2_with fail
      go_ret
      have h := HI.out
      refine ⟨_, _, t1, t2, rfl, Lib.hid ⟨h.wh, ?_, h.be, h.lo⟩⟩
      refine uniq_mem h.wh.pw (by rw [← HL.out]; exact HW.out.pw) (fun x => ?_)
      rw [h.mem, hl0]
      simp
    · intro x c kl yd yp w2 cnt2 hkey hlk hv hat hrg2 hlt hg2 hs2 hen
      obtain ⟨x', ex, rfl, hwf⟩ := Maps.keyOf_int_inv Try.underlying22 hkey
      obtain rfl : x = x' := by injection ex
      obtain ⟨o, ho, rfl⟩ := HI.out.lf x hlk
      have f2 := fr_grown hg2
      have be2 : Below w.heap.size w w2 := HI.out.be.trans (f2.below (fun j hj => by rw [hj]; exact HI.out.rlo) HI.out.be.size)
      have H2 := HW.out.below be2
      have hob : o ∈ bookL s1.rs s2.rs := by rw [HL.out]; exact ho
      have hc0 := H2.cell0
      have hlo := H2.look hob
      have hwh2 : gWhole w2 q m' t1 t2 := HI.out.wh.fr f2 (fun j hj e => HI.out.nr (by rw [← e]; exact hj))
      have hok := HW.out.ok o hob
      have hno : ∀ y ∈ bookL t1.rs t2.rs, ¬ y.id = o.id := fun y hy e => by
        have := (HI.out.mem y).1 hy
        rw [e, hlk] at this
        exact absurd this.2 (by decide)
      have hlen : (bookL t1.rs t2.rs).length < 64 := by have := HI.out.len; omega
      have HP := Lib.hid (gPut_c q m' t1 t2 o w2 hwh2 hno hok.1 hok.2 hlen)
      have HF : Hid (∀ w' t1' t2', gPutIs w2 w' q m' t1 t2 t1' t2' o → gClI w w' q m' t1' t2' m.1 r D (fun z => left z && !z.sameKey (.int .u64 o.id)) cnt2 L) := Lib.hid fun w' t1' t2' hP => HI.out.put (by have := hids.out; rwa [HL.out] at this) ho hlk hg2 hrg2 hlt hP
      have HE := Lib.hid (And.intro hlt hrg.left_eq)
      clear H2 hob hwh2 hok hno hlen be2 f2 hat hv hkey ex hwf hlt hg2 hs2 hrg hrg2 hlk ho HI
      go_wp2_with fail
      ((with_reducible refine HP.out.mono ?_); rintro e w4 ⟨rfl, t1', t2', hp⟩)
      have HG := HF.out w4 t1' t2' hp.out
      go_wp2_with fail
      exact ⟨⟨_, _, t1', t2', Lib.hid HG⟩, by rw [HG.rg.left_eq, HE.out.2]; exact HE.out.1⟩
end Go.Proofs.Ytgbmgdffgmablaa

/- GrovePlays: a book beside the reference's: what a call of both leaves. -/
namespace Go.Proofs.Ytgbmgdffgmablaa
open Go.RowKit Go.Shelf Go.Sort Go.Maps Go.Lib
set_option linter.unusedVariables false

/-- A turn of the book. -/
def gTrn (W W' : World) (p : Nat) (m : Nat × Nat) (s1 s2 s1' s2' : Gd) : Prop :=
  gWhole W' p m s1' s2' ∧ Fr (gft p m s1 s2) W W' ∧ ∀ k, gft p m s1' s2' k → gft p m s1 s2 k ∨ W.heap.size ≤ k
/-- A book and the reference's one, of the call's own. -/
structure gPl (w W : World) (p : Nat) (m : Nat × Nat) (s1 s2 : Gd) (wb : Nat) (M : List Od) : Prop where
  wh : gWhole W p m s1 s2
  rb : RB W wb M
  be : Below w.heap.size w W
  lo : ∀ k, gft p m s1 s2 k → w.heap.size ≤ k
  low : w.heap.size ≤ wb
section
variable {w W W' : World} {p wb : Nat} {m : Nat × Nat} {s1 s2 s1' s2' : Gd} {M M' : List Od}
theorem gPl.below (h : gPl w W p m s1 s2 wb M) (hb : Below W.heap.size W W') : gPl w W' p m s1 s2 wb M := ⟨h.wh.below hb, rb_low h.rb hb, h.be.trans (hb.mono h.be.size), h.lo, h.low⟩
theorem gPl.turn (h : gPl w W p m s1 s2 wb M) (t : gTrn W W' p m s1 s2 s1' s2') : gPl w W' p m s1' s2' wb M :=
  ⟨t.1, grb_fr h.rb h.wh t.2.1, h.be.trans (t.2.1.below h.lo h.be.size), fun k hk => (t.2.2 k hk).elim (h.lo k) (fun e => Nat.le_trans h.be.size e), h.low⟩
theorem gPl.ref (h : gPl w W p m s1 s2 wb M) (hr : RB W' wb M') (hf : Fr (fun k => k = wb) W W') : gPl w W' p m s1 s2 wb M' :=
  ⟨gwhole_rb h.rb h.wh hf, hr, h.be.trans (hf.below (fun j hj => by subst hj; exact h.low) h.be.size), h.lo, h.low⟩
theorem gtrn_same (H : gWhole W p m s1 s2) (hb : Below W.heap.size W W') : gTrn W W' p m s1 s2 s1 s2 := ⟨H.below hb, Fr.of_below hb, fun _ h => .inl h⟩
end

/-- What is left behind one that was taken. -/
theorem gtake_same {w w' : World} {p : Nat} {m : Nat × Nat} {s1 s2 s1' s2' : Gd} {o : Od} {id : Int} (H : gWhole w p m s1 s2) (k : gTakeIs w w' p m s1 s2 s1' s2' o) (ho : o ∈ bookL s1.rs s2.rs) (he : o.id = id) : (bookL s1.rs s2.rs).eraseIdx (idxN id (bookL s1.rs s2.rs)) = bookL s1'.rs s2'.rs := by
  obtain ⟨h1, h2⟩ := idx_of H.ids ho he
  have hp := era_perm h1 h2
  refine uniq ?_ ?_ k.tu.wh.pw
  · exact (List.Perm.cons_inv (hp.symm.trans k.perm))
  · exact H.pw.sublist (List.eraseIdx_sublist _ _)
/-- What the book's Cut tells and leaves is what the reference's does. -/
theorem gcut_same {w w' : World} {p : Nat} {m : Nat × Nat} {s1 s2 s1' s2' : Gd} {id qty c : Int} (H : gWhole w p m s1 s2) (k : gCutIs w w' p m s1 s2 s1' s2' id qty c) : (cutR id qty (bookL s1.rs s2.rs)) = (c, bookL s1'.rs s2'.rs) ∧ gTrn w w' p m s1 s2 s1' s2' := by
  rcases k with ⟨rfl, hno, rfl, rfl, hb⟩ | ⟨o, ho, hid, k⟩
  · refine ⟨?_, gtrn_same H hb⟩
    unfold cutR
    rw [if_neg]
    rw [idx_none hno]; exact Nat.lt_irrefl _
  · obtain ⟨h1, h2⟩ := idx_of H.ids ho hid
    rw [cutR_some rfl h1, h2]
    rcases k with ⟨rfl, hq, rfl, rfl, hb⟩ | ⟨rfl, hq, he, ht⟩ | ⟨rfl, hq, hl, ht⟩
    · exact ⟨if_pos hq, gtrn_same H hb⟩
    · rw [if_neg (by omega), if_pos he]
      exact ⟨by rw [gtake_same H ht ho hid], ht.tu.wh, ht.tu.fr, ht.tu.ft⟩
    · rw [if_neg (by omega), if_neg (by omega)]
      refine ⟨?_, ht.tu.wh, ht.tu.fr, ht.tu.ft⟩
      rw [ht.now]
      congr 1
      have e : bookL s1.rs s2.rs = (bookL s1.rs s2.rs).take (idxN id (bookL s1.rs s2.rs)) ++ o :: (bookL s1.rs s2.rs).drop (idxN id (bookL s1.rs s2.rs) + 1) := by
        have h3 : o = (bookL s1.rs s2.rs)[idxN id (bookL s1.rs s2.rs)]'h1 := by rw [← h2, getElem!_pos (bookL s1.rs s2.rs) _ h1]
        rw [h3, ← List.drop_eq_getElem_cons h1, List.take_append_drop]
      have h4 := less_map (P := (bookL s1.rs s2.rs).take (idxN id (bookL s1.rs s2.rs))) (T := (bookL s1.rs s2.rs).drop (idxN id (bookL s1.rs s2.rs) + 1)) (o := o) (qty := qty) (by rw [← e]; exact H.ids)
      rw [← e] at h4
      rw [h4, List.set_eq_take_append_cons_drop, if_pos h1]
theorem glev_same {w : World} {p : Nat} {m : Nat × Nat} {s1 s2 : Gd} (H : gWhole w p m s1 s2) (sd pr : Int) : atP pr (rsq s1.rs s2.rs sd) = levL sd pr (bookL s1.rs s2.rs) := by
  obtain ⟨D, h⟩ := H
  unfold atP
  rw [← sideQ h.ok1 h.ok2 sd]
  unfold levL sideL
  rw [List.filter_filter]
  congr 1
  funext x
  exact Bool.and_comm _ _
theorem hLevel (p : Nat) (m : Nat × Nat) (s1 s2 : Gd) (sd pr : Int) (hs : (Lit.int .i64 sd).wf = true) (w : World) (H : gWhole w p m s1 s2) :
    Calls Try.prog 13 #[.pointer (some ⟨p, 0, none⟩), .int .i64 sd, .int .i64 pr] w fun e w' => ∃ v, e = .returned v ∧ Hid (w'.ownsRow w.heap.size 24 6 v (levL sd pr (bookL s1.rs s2.rs)).length (ol (levL sd pr (bookL s1.rs s2.rs))) ∧ Below w.heap.size w w') := by
  have e := glev_same H sd pr
  obtain ⟨D, h⟩ := H
  rw [← e]
  exact gLevel_c p m.1 m.2 D s1.g s2.g s1.rs s2.rs sd pr hs w h
end Go.Proofs.Ytgbmgdffgmablaa

/- GrovePlays: the law's like, walked. (By mkplc.py.) -/
namespace Go.Proofs.Ytgbmgdffgmablaa
open Go.RowKit Go.Shelf Go.Sort Go.Maps Go.Lib
set_option linter.unusedVariables false

theorem geqlR (x : Od) (w : World) : (binOp .eql 50 (.agg (OC x)) (.agg (OC x))).run Try.prog w = .ok (.bool true) w := by
  rw [run_eql_struct, eq_ordR]
  have : eqO x x = true := (eqO_iff x x).2 rfl
  rw [this]; rfl
def gzO (r : Option Od) : Od := r.getD ⟨0, 0, 0, 0, 0, 0⟩
theorem gopt_zO (r : Option Od) : optV r = .agg (OC (gzO r)) := by cases r <;> rfl
theorem gods_own {w : World} {base n : Nat} {T : TypeId} {v : Value} {L : List Od} (h : w.ownsRow base T 6 v n (ol L)) (hL : L.length ≤ 1000) (hok : ∀ x ∈ L, Od.ok w x) : ∃ A c, v = .slice A n c ∧ Ods w A n L := by
  have hl := h.1
  rw [ol_len] at hl
  obtain ⟨A, c, e, _, ho⟩ := own_ods h (by omega) hok
  exact ⟨A, c, e, ho⟩

theorem gcl_on {T : TypeId} {X Y : World} {c : Nat} {cs : Array Value} {o : Obj} (h : Cl T X c cs) (hb : Below X.heap.size X Y) : Cl T (Y.alloc o) c cs := hd_prev (Nat.lt_of_lt_of_le (blk_lt h) hb.size) ((hb.block _ (blk_lt h)).trans h)
theorem gbelow_on {W X Y : World} {o : Obj} (h : Below W.heap.size W X) (hb : Below X.heap.size X Y) : Below W.heap.size W (Y.alloc o) := (h.trans (hb.mono h.size)).alloc (Nat.le_trans h.size hb.size) _
theorem gcl_all {T : TypeId} {X : World} {c : Nat} {cs : Array Value} (h : Cl T X c cs) : Hid (∀ Y, Below X.heap.size X Y → Cl T Y c cs) := Lib.hid (fun Y hY => (hY.block _ (blk_lt h)).trans h)
set_option maxHeartbeats 16000000 in
set_option maxRecDepth 100000 in
theorem glike_w {w W : World} {p wb : Nat} {m : Nat × Nat} {s1 s2 : Gd} (id sd pr : Int) (hid0 : (Lit.int .u64 id).wf = true) (hsd : (Lit.int .i64 sd).wf = true) (H : gPl w W p m s1 s2 wb (bookL s1.rs s2.rs)) :
    Calls Try.prog 24 #[.pointer (some ⟨p, 0, none⟩), .pointer (some ⟨wb, 0, none⟩), .int .u64 id, .int .i64 sd, .int .i64 pr] W fun e w' => e = .returned (.bool true) ∧ Hid (Below W.heap.size W w') := by
  have mixed : Try.prog.follows .mixedOrders = true := by kernel_rfl
  have HX := Lib.hid hid0
  have hlen := H.wh.len
  have hid := H.wh.ids
  have hokM : ∀ x ∈ bookL s1.rs s2.rs, Od.ok W x := fun x hx => (H.wh.ok x hx).1
  have HW := Lib.hid H
  obtain ⟨M, hM⟩ : ∃ M, bookL s1.rs s2.rs = M := ⟨_, rfl⟩
  obtain ⟨n, hn⟩ : ∃ n, M.length = n := ⟨_, rfl⟩
  obtain ⟨g, hg⟩ : ∃ g, gzO (getO id M) = g := ⟨_, rfl⟩
  obtain ⟨gb, hgb⟩ : ∃ g, (getO id M).isSome = g := ⟨_, rfl⟩
  obtain ⟨t, ht⟩ : ∃ g, gzO (bestL sd M) = g := ⟨_, rfl⟩
  obtain ⟨tb, htb⟩ : ∃ g, (bestL sd M).isSome = g := ⟨_, rfl⟩
  have HG : Hid (∀ X, Below W.heap.size W X → Calls Try.prog 7 #[.pointer (some ⟨p, 0, none⟩), .int .u64 id] X fun e w' => e = .returned (.tuple #[.agg (OC g), .bool gb]) ∧ Hid (Below X.heap.size X w')) := Lib.hid (fun X hX => by
    have h := H.wh.below hX
    refine (hGet p m s1 s2 id HX.out X h).mono ?_
    rintro e w' ⟨r, rfl, hr⟩
    have := get_same hid hr.out.1
    rw [hM] at this
    subst this
    exact ⟨by rw [gopt_zO, hg, hgb], Lib.hid hr.out.2⟩)
  have HRG : Hid (∀ X, Below W.heap.size W X → Calls Try.prog 41 #[.pointer (some ⟨wb, 0, none⟩), .int .u64 id] X fun e w' => e = .returned (.tuple #[.agg (OC g), .bool gb]) ∧ Hid (Below X.heap.size X w')) := Lib.hid (fun X hX => by
    refine (rGet_c wb id (bookL s1.rs s2.rs) X (rb_low H.rb hX) (by omega)).mono ?_
    rintro e w' ⟨rfl, hr⟩
    exact ⟨by rw [hM, gopt_zO, hg, hgb], hr⟩)
  have HB : Hid (∀ X, Below W.heap.size W X → Calls Try.prog 9 #[.pointer (some ⟨p, 0, none⟩), .int .i64 sd] X fun e w' => e = .returned (.tuple #[.agg (OC t), .bool tb]) ∧ Hid (Below X.heap.size X w')) := Lib.hid (fun X hX => by
    have h := H.wh.below hX
    refine (hBest p m s1 s2 sd hsd X h).mono ?_
    rintro e w' ⟨rfl, hr⟩
    exact ⟨by rw [hM, gopt_zO, ht, htb], hr⟩)
  have HRB : Hid (∀ X, Below W.heap.size W X → Calls Try.prog 42 #[.pointer (some ⟨wb, 0, none⟩), .int .i64 sd] X fun e w' => e = .returned (.tuple #[.agg (OC t), .bool tb]) ∧ Hid (Below X.heap.size X w')) := Lib.hid (fun X hX => by
    refine (rBest_c wb sd (bookL s1.rs s2.rs) X (rb_low H.rb hX) (by omega)).mono ?_
    rintro e w' ⟨rfl, hr⟩
    exact ⟨by rw [hM, gopt_zO, ht, htb], hr⟩)
  have HAll0 : Hid (∀ X, Below W.heap.size W X → Calls Try.prog 12 #[.pointer (some ⟨p, 0, none⟩)] X fun e w' => ∃ A c, e = .returned (.slice A n c) ∧ Hid (Below X.heap.size X w') ∧ Hid (Ods w' A n M)) := Lib.hid (fun X hX => by
    exact gall_in (H.wh.below hX) hM hn)
  have HLen0 : Hid (∀ X, Below W.heap.size W X → Calls Try.prog 15 #[.pointer (some ⟨p, 0, none⟩)] X fun e w' => e = .returned (.int .i64 n) ∧ Hid (Below X.heap.size X w')) := Lib.hid (fun X hX => by
    have h := H.wh.below hX
    have k := hLen p m s1 s2 X h
    rw [hM, hn] at k
    exact k.mono fun e w' ⟨h1, h2⟩ => ⟨h1, by rw [← h2]; exact Lib.hid (Below.refl _ _)⟩)
  have HPr0 : Hid (∀ X, Below W.heap.size W X → Calls Try.prog 14 #[.pointer (some ⟨p, 0, none⟩), .int .i64 sd] X fun e w' => ∃ v, e = .returned v ∧ Hid (w'.ownsRow X.heap.size 2 1 v (prs (sideL sd M)).length ((prs (sideL sd M)).map (fun p => Value.int .i64 p)) ∧ Below X.heap.size X w')) := Lib.hid (fun X hX => by
    have h := H.wh.below hX
    have k := hPrices p m s1 s2 sd hsd X h
    rw [hM] at k
    exact k)
  have HRPr0 : Hid (∀ X, Below W.heap.size W X → Calls Try.prog 43 #[.pointer (some ⟨wb, 0, none⟩), .int .i64 sd] X fun e w' => ∃ v, e = .returned v ∧ Hid (w'.ownsRow X.heap.size 2 1 v (prs (sideL sd M)).length ((prs (sideL sd M)).map (fun p => Value.int .i64 p)) ∧ Below X.heap.size X w')) := Lib.hid (fun X hX => by
    have k := rPrices_c wb sd (bookL s1.rs s2.rs) X (rb_low H.rb hX) (by omega)
    rw [hM] at k
    exact k)
  have HLv0 : Hid (∀ X, Below W.heap.size W X → Calls Try.prog 13 #[.pointer (some ⟨p, 0, none⟩), .int .i64 sd, .int .i64 pr] X fun e w' => ∃ A c, e = .returned (.slice A (levL sd pr M).length c) ∧ Hid (Below X.heap.size X w') ∧ Hid (Ods w' A (levL sd pr M).length (levL sd pr M))) := Lib.hid (fun X hX => by
    have h := H.wh.below hX
    have k := hLevel p m s1 s2 sd pr hsd X h
    rw [hM] at k
    refine k.mono ?_
    rintro e w' ⟨v, rfl, hv⟩
    have hll : (levL sd pr M).length ≤ M.length := levL_len sd pr M
    obtain ⟨A, c, rfl, ho⟩ := gods_own hv.out.1 (by rw [hn] at hll; have : n ≤ 64 := (by rw [← hn, ← hM]; exact hlen); omega) (fun x hx => hokM x (by rw [hM]; exact (List.mem_filter.1 hx).1))
    exact ⟨A, c, rfl, Lib.hid hv.out.2, Lib.hid ho⟩)
  have HRLv0 : Hid (∀ X, Below W.heap.size W X → Calls Try.prog 44 #[.pointer (some ⟨wb, 0, none⟩), .int .i64 sd, .int .i64 pr] X fun e w' => ∃ A c, e = .returned (.slice A (levL sd pr M).length c) ∧ Hid (Below X.heap.size X w') ∧ Hid (Ods w' A (levL sd pr M).length (levL sd pr M))) := Lib.hid (fun X hX => by
    have k := rLevel_c wb sd pr (bookL s1.rs s2.rs) X (rb_low H.rb hX) (by omega)
    rw [hM] at k
    refine k.mono ?_
    rintro e w' ⟨v, rfl, hv⟩
    have hll : (levL sd pr M).length ≤ M.length := levL_len sd pr M
    obtain ⟨A, c, rfl, ho⟩ := gods_own hv.out.1 (by rw [hn] at hll; have : n ≤ 64 := (by rw [← hn, ← hM]; exact hlen); omega) (fun x hx => hokM x (by rw [hM]; exact (List.mem_filter.1 hx).1))
    exact ⟨A, c, rfl, Lib.hid hv.out.2, Lib.hid ho⟩)
  have hn64 : n ≤ 64 := by rw [← hn, ← hM]; exact hlen
  obtain ⟨A0, c0, hcl, how⟩ := H.rb
  rw [hM, hn] at hcl how
  have hwbl := blk_lt hcl
  obtain ⟨A0', c0', e0, hod⟩ := gods_own how (by rw [hn]; omega) (fun x hx => hokM x (by rw [hM]; exact hx))
  injection e0 with e0 _ _
  subst e0
  have HCell0 : Hid (∀ X, Below W.heap.size W X → X.cell? ⟨wb, 0, none⟩ = some (.slice A0 n c0)) := Lib.hid (fun X hX => (Cl.c (T := 48) ((hX.block _ hwbl).trans hcl) 0).trans rfl)
  have HRow0 : Hid (∀ X, Below W.heap.size W X → Ods X A0 n M) := Lib.hid (fun X hX => hod.below hX)
  have HSameM : Hid (∀ X A B c c', Ods X A n M → Ods X B n M → Calls Try.prog 20 #[.slice A n c, .slice B n c'] X fun e w' => e = .returned (.bool true) ∧ Hid (Below X.heap.size X w')) := Lib.hid (fun X A B c c' h k => gsame_in h k (by omega))
  have HSameL : Hid (∀ X A B c c', Ods X A (levL sd pr M).length (levL sd pr M) → Ods X B (levL sd pr M).length (levL sd pr M) → Calls Try.prog 20 #[.slice A (levL sd pr M).length c, .slice B (levL sd pr M).length c'] X fun e w' => e = .returned (.bool true) ∧ Hid (Below X.heap.size X w')) := Lib.hid (fun X A B c c' h k => gsame_in h k (by have := levL_len sd pr M; omega))
  have HPs : Hid (∀ v u base base' X, X.ownsRow base 2 1 v (prs (sideL sd M)).length ((prs (sideL sd M)).map (fun p => Value.int .i64 p)) → X.ownsRow base' 2 1 u (prs (sideL sd M)).length ((prs (sideL sd M)).map (fun p => Value.int .i64 p)) → Calls Try.prog 21 #[v, u] X fun e w' => e = .returned (.bool true) ∧ Hid (Below X.heap.size X w')) := Lib.hid (fun v u b b' X h k => gprices_c v u _ _ b b' X h k (by
    have h1 := prs_len (sideL sd M)
    have h2 : (sideL sd M).length ≤ M.length := List.length_filter_le _ _
    omega))
  have heqg := geqlR g
  have heqt := geqlR t
  clear hid0 HX hid hlen hokM H hcl how hod
  have B0 : Hid (Below W.heap.size W W) := Lib.hid (Below.refl _ _)
  go_enter Try.func24, Try.ntmps24
  go_wp2_with (first | ((with_reducible refine (HG.out _ B0.out).mono ?_); rintro e w1 ⟨rfl, k1⟩; have B1 : Hid (Below W.heap.size W (w1.alloc (.cells (OC g) 24))) := Lib.hid (gbelow_on B0.out k1.out); have C1 : Hid (Cl 24 (w1.alloc (.cells (OC g) 24)) w1.heap.size (OC g)) := Lib.hid (hd_last rfl); clear HG k1 B0) | ((with_reducible refine (HRG.out _ B1.out).mono ?_); rintro e w2 ⟨rfl, k2⟩; have B2 : Hid (Below W.heap.size W (w2.alloc (.cells (OC g) 50))) := Lib.hid (gbelow_on B1.out k2.out); have D1 : Hid (Cl 24 (w2.alloc (.cells (OC g) 50)) w1.heap.size (OC g)) := Lib.hid (gcl_on C1.out k2.out); clear C1; have C1 := D1; clear D1; have C2 : Hid (Cl 50 (w2.alloc (.cells (OC g) 50)) w2.heap.size (OC g)) := Lib.hid (hd_last rfl); clear HRG k2 B1) | ((with_reducible refine (HB.out _ B2.out).mono ?_); rintro e w3 ⟨rfl, k3⟩; have B3 : Hid (Below W.heap.size W (w3.alloc (.cells (OC t) 24))) := Lib.hid (gbelow_on B2.out k3.out); have D1 : Hid (Cl 24 (w3.alloc (.cells (OC t) 24)) w1.heap.size (OC g)) := Lib.hid (gcl_on C1.out k3.out); clear C1; have C1 := D1; clear D1; have D2 : Hid (Cl 50 (w3.alloc (.cells (OC t) 24)) w2.heap.size (OC g)) := Lib.hid (gcl_on C2.out k3.out); clear C2; have C2 := D2; clear D2; have C3 : Hid (Cl 24 (w3.alloc (.cells (OC t) 24)) w3.heap.size (OC t)) := Lib.hid (hd_last rfl); clear HB k3 B2) | ((with_reducible refine (HRB.out _ B3.out).mono ?_); rintro e w4 ⟨rfl, k4⟩; have B4 : Hid (Below W.heap.size W (w4.alloc (.cells (OC t) 50))) := Lib.hid (gbelow_on B3.out k4.out); have D1 : Hid (Cl 24 (w4.alloc (.cells (OC t) 50)) w1.heap.size (OC g)) := Lib.hid (gcl_on C1.out k4.out); clear C1; have C1 := D1; clear D1; have D2 : Hid (Cl 50 (w4.alloc (.cells (OC t) 50)) w2.heap.size (OC g)) := Lib.hid (gcl_on C2.out k4.out); clear C2; have C2 := D2; clear D2; have D3 : Hid (Cl 24 (w4.alloc (.cells (OC t) 50)) w3.heap.size (OC t)) := Lib.hid (gcl_on C3.out k4.out); clear C3; have C3 := D3; clear D3; have C4 : Hid (Cl 50 (w4.alloc (.cells (OC t) 50)) w4.heap.size (OC t)) := Lib.hid (hd_last rfl); clear HRB k4 B3))
  obtain ⟨X0, eX0⟩ : ∃ X0, w4.alloc (.cells (OC t) 50) = X0 := ⟨_, rfl⟩
  rw [eX0] at B4 C1 C2 C3 C4
  have HC1 := gcl_all C1.out
  have HC2 := gcl_all C2.out
  have HC3 := gcl_all C3.out
  have HC4 := gcl_all C4.out
  have HAll := Lib.hid (fun X (hX : Below X0.heap.size X0 X) => HAll0.out X (B4.out.trans (hX.mono B4.out.size)))
  have HLen := Lib.hid (fun X (hX : Below X0.heap.size X0 X) => HLen0.out X (B4.out.trans (hX.mono B4.out.size)))
  have HPr := Lib.hid (fun X (hX : Below X0.heap.size X0 X) => HPr0.out X (B4.out.trans (hX.mono B4.out.size)))
  have HRPr := Lib.hid (fun X (hX : Below X0.heap.size X0 X) => HRPr0.out X (B4.out.trans (hX.mono B4.out.size)))
  have HLv := Lib.hid (fun X (hX : Below X0.heap.size X0 X) => HLv0.out X (B4.out.trans (hX.mono B4.out.size)))
  have HRLv := Lib.hid (fun X (hX : Below X0.heap.size X0 X) => HRLv0.out X (B4.out.trans (hX.mono B4.out.size)))
  have HCell := Lib.hid (fun X (hX : Below X0.heap.size X0 X) => HCell0.out X (B4.out.trans (hX.mono B4.out.size)))
  have HRow := Lib.hid (fun X (hX : Below X0.heap.size X0 X) => HRow0.out X (B4.out.trans (hX.mono B4.out.size)))
  rw [eX0]
  clear eX0 HAll0 HLen0 HPr0 HRPr0 HLv0 HRLv0 HCell0 HRow0 C1 C2 C3 C4
  refine wp_region_held_drew (S := fun X => Below X0.heap.size X0 X) (by kernel_rfl) (by exact (Below.refl _ _).drew) (fun hHeld => ?_)
  refine wpAnyH_take (i := 0) (oi := ⟨some 43, _, _, _, _, _⟩) (v := ?_) rfl (by kernel_rfl) (by kernel_rfl) (by kernel_rfl) (fun _ _ _ h => h) (Or.inl ⟨by kernel_rfl, ?_⟩) (by assumption) ?_
  rotate_left
  · (intro w hSw; obtain ⟨hs0, hs1, hs2, hs3, hs4, hs5⟩ := six_of (HC1.out _ hSw); (try dsimp only at hSw); go_simp; try with_reducible rfl)
  (repeat (first | simp only [Act.put] | simp only [List.setIfInBounds_toArray] | simp only [List.set_cons_succ] | simp only [List.set_cons_zero]))
  refine wpAnyH_take (i := 1) (oi := ⟨some 44, _, _, _, _, _⟩) (v := ?_) rfl (by kernel_rfl) (by kernel_rfl) (by kernel_rfl) (fun _ _ _ h => h) (Or.inl ⟨by kernel_rfl, ?_⟩) (by assumption) ?_
  rotate_left
  · (intro w hSw; obtain ⟨hs0, hs1, hs2, hs3, hs4, hs5⟩ := six_of (HC2.out _ hSw); (try dsimp only at hSw); go_simp; try with_reducible rfl)
  (repeat (first | simp only [Act.put] | simp only [List.setIfInBounds_toArray] | simp only [List.set_cons_succ] | simp only [List.set_cons_zero]))
  refine wpAnyH_take (i := 2) (oi := ⟨some 45, _, _, _, _, _⟩) (v := ?_) rfl (by kernel_rfl) (by kernel_rfl) (by kernel_rfl) (fun _ _ _ h => h) (Or.inl ⟨by kernel_rfl, ?_⟩) (by assumption) ?_
  rotate_left
  · (intro w hSw; (try dsimp only at hSw); go_simp; try with_reducible rfl)
  (repeat (first | simp only [Act.put] | simp only [List.setIfInBounds_toArray] | simp only [List.set_cons_succ] | simp only [List.set_cons_zero]))
  refine wpAnyH_take (i := 3) (oi := ⟨some 46, _, _, _, _, _⟩) (v := ?_) rfl (by kernel_rfl) (by kernel_rfl) (by kernel_rfl) (fun _ _ _ h => h) (Or.inl ⟨by kernel_rfl, ?_⟩) (by assumption) ?_
  rotate_left
  · (intro w hSw; (try dsimp only at hSw); go_simp; try with_reducible rfl)
  (repeat (first | simp only [Act.put] | simp only [List.setIfInBounds_toArray] | simp only [List.set_cons_succ] | simp only [List.set_cons_zero]))
  refine wpAnyH_take (i := 4) (oi := ⟨some 47, _, _, _, _, _⟩) (v := ?_) rfl (by kernel_rfl) (by kernel_rfl) (by kernel_rfl) (fun _ _ _ h => h) (Or.inl ⟨by kernel_rfl, ?_⟩) (by assumption) ?_
  rotate_left
  · (intro w hSw; (try dsimp only at hSw); go_simp; try with_reducible rfl)
  (repeat (first | simp only [Act.put] | simp only [List.setIfInBounds_toArray] | simp only [List.set_cons_succ] | simp only [List.set_cons_zero]))
  refine wpAnyH_take (i := 5) (oi := ⟨some 48, _, _, _, _, _⟩) (v := ?_) rfl (by kernel_rfl) (by kernel_rfl) (by kernel_rfl) (fun _ _ _ h => h) (Or.inl ⟨by kernel_rfl, ?_⟩) (by assumption) ?_
  rotate_left
  · (intro w hSw; (try dsimp only at hSw); go_simp; try with_reducible rfl)
  (repeat (first | simp only [Act.put] | simp only [List.setIfInBounds_toArray] | simp only [List.set_cons_succ] | simp only [List.set_cons_zero]))
  refine wpAnyH_take (i := 6) (oi := ⟨some 49, _, _, _, _, _⟩) (v := ?_) rfl (by kernel_rfl) (by kernel_rfl) (by kernel_rfl) (fun _ _ _ h => h) (Or.inl ⟨by kernel_rfl, ?_⟩) (by assumption) ?_
  rotate_left
  · (intro w hSw; (try dsimp only at hSw); go_simp; try with_reducible rfl)
  (repeat (first | simp only [Act.put] | simp only [List.setIfInBounds_toArray] | simp only [List.set_cons_succ] | simp only [List.set_cons_zero]))
  refine wpAnyH_take (i := 7) (oi := ⟨some 50, _, _, _, _, _⟩) (v := ?_) rfl (by kernel_rfl) (by kernel_rfl) (by kernel_rfl) (fun _ _ _ h => h) (Or.inl ⟨by kernel_rfl, ?_⟩) (by assumption) ?_
  rotate_left
  · (intro w hSw; (try dsimp only at hSw); go_simp; try with_reducible rfl)
  (repeat (first | simp only [Act.put] | simp only [List.setIfInBounds_toArray] | simp only [List.set_cons_succ] | simp only [List.set_cons_zero]))
  refine wpAnyH_take (i := 8) (oi := ⟨some 51, _, _, _, _, _⟩) (v := ?_) rfl (by kernel_rfl) (by kernel_rfl) (by kernel_rfl) (fun _ _ _ h => h) (Or.inl ⟨by kernel_rfl, ?_⟩) (by assumption) ?_
  rotate_left
  · (intro w hSw; (try dsimp only at hSw); go_simp; try with_reducible rfl)
  (repeat (first | simp only [Act.put] | simp only [List.setIfInBounds_toArray] | simp only [List.set_cons_succ] | simp only [List.set_cons_zero]))
  refine wpAnyH_take (i := 9) (oi := ⟨some 52, _, _, _, _, _⟩) (v := ?_) rfl (by kernel_rfl) (by kernel_rfl) (by kernel_rfl) (fun _ _ _ h => h) (Or.inl ⟨by kernel_rfl, ?_⟩) (by assumption) ?_
  rotate_left
  · (intro w hSw; obtain ⟨hs0, hs1, hs2, hs3, hs4, hs5⟩ := six_of (HC3.out _ hSw); (try dsimp only at hSw); go_simp; try with_reducible rfl)
  (repeat (first | simp only [Act.put] | simp only [List.setIfInBounds_toArray] | simp only [List.set_cons_succ] | simp only [List.set_cons_zero]))
  refine wpAnyH_take (i := 10) (oi := ⟨some 53, _, _, _, _, _⟩) (v := ?_) rfl (by kernel_rfl) (by kernel_rfl) (by kernel_rfl) (fun _ _ _ h => h) (Or.inl ⟨by kernel_rfl, ?_⟩) (by assumption) ?_
  rotate_left
  · (intro w hSw; obtain ⟨hs0, hs1, hs2, hs3, hs4, hs5⟩ := six_of (HC4.out _ hSw); (try dsimp only at hSw); go_simp; try with_reducible rfl)
  (repeat (first | simp only [Act.put] | simp only [List.setIfInBounds_toArray] | simp only [List.set_cons_succ] | simp only [List.set_cons_zero]))
  refine wpAnyH_take (i := 11) (oi := ⟨some 54, _, _, _, _, _⟩) (v := ?_) rfl (by kernel_rfl) (by kernel_rfl) (by kernel_rfl) (fun _ _ _ h => h) (Or.inl ⟨by kernel_rfl, ?_⟩) (by assumption) ?_
  rotate_left
  · (intro w hSw; (try dsimp only at hSw); go_simp; try with_reducible rfl)
  (repeat (first | simp only [Act.put] | simp only [List.setIfInBounds_toArray] | simp only [List.set_cons_succ] | simp only [List.set_cons_zero]))
  refine wpAnyH_take (i := 12) (oi := ⟨some 55, _, _, _, _, _⟩) (v := ?_) rfl (by kernel_rfl) (by kernel_rfl) (by kernel_rfl) (fun _ _ _ h => h) (Or.inl ⟨by kernel_rfl, ?_⟩) (by assumption) ?_
  rotate_left
  · (intro w hSw; (try dsimp only at hSw); go_simp; try with_reducible rfl)
  (repeat (first | simp only [Act.put] | simp only [List.setIfInBounds_toArray] | simp only [List.set_cons_succ] | simp only [List.set_cons_zero]))
  refine wpAnyH_take (i := 13) (oi := ⟨some 56, _, _, _, _, _⟩) (v := ?_) rfl (by kernel_rfl) (by kernel_rfl) (by kernel_rfl) (fun _ _ _ h => h) (Or.inl ⟨by kernel_rfl, ?_⟩) (by assumption) ?_
  rotate_left
  · (intro w hSw; (try dsimp only at hSw); go_simp; try with_reducible rfl)
  (repeat (first | simp only [Act.put] | simp only [List.setIfInBounds_toArray] | simp only [List.set_cons_succ] | simp only [List.set_cons_zero]))
  refine wpAnyH_take (i := 14) (oi := ⟨some 57, _, _, _, _, _⟩) (v := ?_) rfl (by kernel_rfl) (by kernel_rfl) (by kernel_rfl) (fun _ _ _ h => h) (Or.inl ⟨by kernel_rfl, ?_⟩) (by assumption) ?_
  rotate_left
  · (intro w hSw; (try dsimp only at hSw); go_simp; try with_reducible rfl)
  (repeat (first | simp only [Act.put] | simp only [List.setIfInBounds_toArray] | simp only [List.set_cons_succ] | simp only [List.set_cons_zero]))
  refine wpAnyH_take (i := 15) (oi := ⟨some 58, _, _, _, _, _⟩) (v := ?_) rfl (by kernel_rfl) (by kernel_rfl) (by kernel_rfl) (fun _ _ _ h => h) (Or.inl ⟨by kernel_rfl, ?_⟩) (by assumption) ?_
  rotate_left
  · (intro w hSw; (try dsimp only at hSw); go_simp; try with_reducible rfl)
  (repeat (first | simp only [Act.put] | simp only [List.setIfInBounds_toArray] | simp only [List.set_cons_succ] | simp only [List.set_cons_zero]))
  refine wpAnyH_take (i := 16) (oi := ⟨some 59, _, _, _, _, _⟩) (v := ?_) rfl (by kernel_rfl) (by kernel_rfl) (by kernel_rfl) (fun _ _ _ h => h) (Or.inl ⟨by kernel_rfl, ?_⟩) (by assumption) ?_
  rotate_left
  · (intro w hSw; (try dsimp only at hSw); go_simp; try with_reducible rfl)
  (repeat (first | simp only [Act.put] | simp only [List.setIfInBounds_toArray] | simp only [List.set_cons_succ] | simp only [List.set_cons_zero]))
  refine wpAnyH_take (i := 17) (oi := ⟨some 60, _, _, _, _, _⟩) (v := ?_) rfl (by kernel_rfl) (by kernel_rfl) (by kernel_rfl) (fun _ _ _ h => h) (Or.inl ⟨by kernel_rfl, ?_⟩) (by assumption) ?_
  rotate_left
  · (intro w hSw; (try dsimp only at hSw); go_simp; try with_reducible rfl)
  (repeat (first | simp only [Act.put] | simp only [List.setIfInBounds_toArray] | simp only [List.set_cons_succ] | simp only [List.set_cons_zero]))
  refine wpAnyH_take (i := 18) (oi := ⟨some 61, _, _, _, _, _⟩) (v := ?_) rfl (by kernel_rfl) (by kernel_rfl) (by kernel_rfl) (fun _ _ _ h => h) (Or.inl ⟨by kernel_rfl, ?_⟩) (by assumption) ?_
  rotate_left
  · (intro w hSw; (try dsimp only at hSw); go_simp; try with_reducible rfl)
  (repeat (first | simp only [Act.put] | simp only [List.setIfInBounds_toArray] | simp only [List.set_cons_succ] | simp only [List.set_cons_zero]))
  refine wpAnyH_take (i := 19) (oi := ⟨some 62, _, _, _, _, _⟩) (v := ?_) rfl (by kernel_rfl) (by kernel_rfl) (by kernel_rfl) (fun _ _ _ h => h) (Or.inl ⟨by kernel_rfl, ?_⟩) (by assumption) ?_
  rotate_left
  · (intro w hSw; (try dsimp only at hSw); go_simp; try with_reducible rfl)
  (repeat (first | simp only [Act.put] | simp only [List.setIfInBounds_toArray] | simp only [List.set_cons_succ] | simp only [List.set_cons_zero]))
  refine wpAnyH_take (i := 21) (oi := ⟨some 64, _, _, _, _, _⟩) (v := ?_) rfl (by kernel_rfl) (by kernel_rfl) (by kernel_rfl) (fun _ _ _ h => h) (Or.inl ⟨by kernel_rfl, ?_⟩) (by assumption) ?_
  rotate_left
  · (intro w hSw; (try dsimp only at hSw); go_simp; try with_reducible rfl)
  (repeat (first | simp only [Act.put] | simp only [List.setIfInBounds_toArray] | simp only [List.set_cons_succ] | simp only [List.set_cons_zero]))
  refine wpAnyH_take (i := 22) (oi := ⟨some 65, _, _, _, _, _⟩) (v := ?_) rfl (by kernel_rfl) (by kernel_rfl) (by kernel_rfl) (fun _ _ _ h => h) (Or.inl ⟨by kernel_rfl, ?_⟩) (by assumption) ?_
  rotate_left
  · (intro w hSw; (try dsimp only at hSw); go_simp; try with_reducible rfl)
  (repeat (first | simp only [Act.put] | simp only [List.setIfInBounds_toArray] | simp only [List.set_cons_succ] | simp only [List.set_cons_zero]))
  refine wpAnyH_take (i := 23) (oi := ⟨some 66, _, _, _, _, _⟩) (v := ?_) rfl (by kernel_rfl) (by kernel_rfl) (by kernel_rfl) (fun _ _ _ h => h) (Or.inl ⟨by kernel_rfl, ?_⟩) (by assumption) ?_
  rotate_left
  · (intro w hSw; (try dsimp only at hSw); go_simp; try with_reducible rfl)
  (repeat (first | simp only [Act.put] | simp only [List.setIfInBounds_toArray] | simp only [List.set_cons_succ] | simp only [List.set_cons_zero]))
  refine wpAnyH_take (i := 24) (oi := ⟨some 67, _, _, _, _, _⟩) (v := ?_) rfl (by kernel_rfl) (by kernel_rfl) (by kernel_rfl) (fun _ _ _ h => h) (Or.inl ⟨by kernel_rfl, ?_⟩) (by assumption) ?_
  rotate_left
  · (intro w hSw; have hs := HCell.out _ hSw; (try dsimp only at hSw); go_simp; try with_reducible rfl)
  (repeat (first | simp only [Act.put] | simp only [List.setIfInBounds_toArray] | simp only [List.set_cons_succ] | simp only [List.set_cons_zero]))
  refine wpAnyH_ready (rs := [20]) (by kernel_rfl) (by simp) ?_
  refine AllReadyH.cons (o := ⟨some 63, _, _, _, _, _⟩) rfl (fun K hK => ?_) AllReadyH.nil
  go_simp
  ((with_reducible refine (HAll.out _ hHeld).mono ?_); rintro e y1 ⟨A1, c1, rfl, hb, ho1⟩)
  refine hK.out _ _ (by exact hHeld.trans (hb.out.mono hHeld.size)) (fun hHeld => ?_)
  clear hK K
  (repeat (first | simp only [Act.put] | simp only [List.setIfInBounds_toArray] | simp only [List.set_cons_succ] | simp only [List.set_cons_zero]))
  refine wpAnyH_ready (rs := [25]) (by kernel_rfl) (by simp) ?_
  refine AllReadyH.cons (o := ⟨some 68, _, _, _, _, _⟩) rfl (fun K hK => ?_) AllReadyH.nil
  go_simp
  ((with_reducible refine (HSameM.out _ _ _ _ _ (ho1.out.below (Below.refl _ _)) (HRow.out _ hHeld)).mono ?_); rintro e y2 ⟨rfl, hb⟩)
  refine hK.out _ _ (by exact hHeld.trans (hb.out.mono hHeld.size)) (fun hHeld => ?_)
  clear hK K
  (repeat (first | simp only [Act.put] | simp only [List.setIfInBounds_toArray] | simp only [List.set_cons_succ] | simp only [List.set_cons_zero]))
  refine wpAnyH_take (i := 26) (oi := ⟨some 69, _, _, _, _, _⟩) (v := ?_) rfl (by kernel_rfl) (by kernel_rfl) (by kernel_rfl) (fun _ _ _ h => h) (Or.inl ⟨by kernel_rfl, ?_⟩) (by assumption) ?_
  rotate_left
  · (intro w hSw; (try dsimp only at hSw); go_simp; try with_reducible rfl)
  (repeat (first | simp only [Act.put] | simp only [List.setIfInBounds_toArray] | simp only [List.set_cons_succ] | simp only [List.set_cons_zero]))
  refine wpAnyH_take (i := 27) (oi := ⟨some 70, _, _, _, _, _⟩) (v := ?_) rfl (by kernel_rfl) (by kernel_rfl) (by kernel_rfl) (fun _ _ _ h => h) (Or.inl ⟨by kernel_rfl, ?_⟩) (by assumption) ?_
  rotate_left
  · (intro w hSw; (try dsimp only at hSw); go_simp; try with_reducible rfl)
  (repeat (first | simp only [Act.put] | simp only [List.setIfInBounds_toArray] | simp only [List.set_cons_succ] | simp only [List.set_cons_zero]))
  refine wpAnyH_take (i := 28) (oi := ⟨some 71, _, _, _, _, _⟩) (v := ?_) rfl (by kernel_rfl) (by kernel_rfl) (by kernel_rfl) (fun _ _ _ h => h) (Or.inl ⟨by kernel_rfl, ?_⟩) (by assumption) ?_
  rotate_left
  · (intro w hSw; (try dsimp only at hSw); go_simp; try with_reducible rfl)
  (repeat (first | simp only [Act.put] | simp only [List.setIfInBounds_toArray] | simp only [List.set_cons_succ] | simp only [List.set_cons_zero]))
  refine wpAnyH_take (i := 30) (oi := ⟨some 73, _, _, _, _, _⟩) (v := ?_) rfl (by kernel_rfl) (by kernel_rfl) (by kernel_rfl) (fun _ _ _ h => h) (Or.inl ⟨by kernel_rfl, ?_⟩) (by assumption) ?_
  rotate_left
  · (intro w hSw; (try dsimp only at hSw); go_simp; try with_reducible rfl)
  (repeat (first | simp only [Act.put] | simp only [List.setIfInBounds_toArray] | simp only [List.set_cons_succ] | simp only [List.set_cons_zero]))
  refine wpAnyH_take (i := 31) (oi := ⟨some 74, _, _, _, _, _⟩) (v := ?_) rfl (by kernel_rfl) (by kernel_rfl) (by kernel_rfl) (fun _ _ _ h => h) (Or.inl ⟨by kernel_rfl, ?_⟩) (by assumption) ?_
  rotate_left
  · (intro w hSw; (try dsimp only at hSw); go_simp; try with_reducible rfl)
  (repeat (first | simp only [Act.put] | simp only [List.setIfInBounds_toArray] | simp only [List.set_cons_succ] | simp only [List.set_cons_zero]))
  refine wpAnyH_take (i := 32) (oi := ⟨some 75, _, _, _, _, _⟩) (v := ?_) rfl (by kernel_rfl) (by kernel_rfl) (by kernel_rfl) (fun _ _ _ h => h) (Or.inl ⟨by kernel_rfl, ?_⟩) (by assumption) ?_
  rotate_left
  · (intro w hSw; (try dsimp only at hSw); go_simp; try with_reducible rfl)
  (repeat (first | simp only [Act.put] | simp only [List.setIfInBounds_toArray] | simp only [List.set_cons_succ] | simp only [List.set_cons_zero]))
  refine wpAnyH_take (i := 33) (oi := ⟨some 76, _, _, _, _, _⟩) (v := ?_) rfl (by kernel_rfl) (by kernel_rfl) (by kernel_rfl) (fun _ _ _ h => h) (Or.inl ⟨by kernel_rfl, ?_⟩) (by assumption) ?_
  rotate_left
  · (intro w hSw; have hs := HCell.out _ hSw; (try dsimp only at hSw); go_simp; try with_reducible rfl)
  (repeat (first | simp only [Act.put] | simp only [List.setIfInBounds_toArray] | simp only [List.set_cons_succ] | simp only [List.set_cons_zero]))
  refine wpAnyH_take (i := 34) (oi := ⟨some 77, _, _, _, _, _⟩) (v := ?_) rfl (by kernel_rfl) (by kernel_rfl) (by kernel_rfl) (fun _ _ _ h => h) (Or.inl ⟨by kernel_rfl, ?_⟩) (by assumption) ?_
  rotate_left
  · (intro w hSw; (try dsimp only at hSw); go_simp; try with_reducible rfl)
  (repeat (first | simp only [Act.put] | simp only [List.setIfInBounds_toArray] | simp only [List.set_cons_succ] | simp only [List.set_cons_zero]))
  refine wpAnyH_ready (rs := [29]) (by kernel_rfl) (by simp) ?_
  refine AllReadyH.cons (o := ⟨some 72, _, _, _, _, _⟩) rfl (fun K hK => ?_) AllReadyH.nil
  go_simp
  ((with_reducible refine (HLen.out _ hHeld).mono ?_); rintro e y3 ⟨rfl, hb⟩)
  refine hK.out _ _ (by exact hHeld.trans (hb.out.mono hHeld.size)) (fun hHeld => ?_)
  clear hK K
  (repeat (first | simp only [Act.put] | simp only [List.setIfInBounds_toArray] | simp only [List.set_cons_succ] | simp only [List.set_cons_zero]))
  refine wpAnyH_take (i := 35) (oi := ⟨some 78, _, _, _, _, _⟩) (v := ?_) rfl (by kernel_rfl) (by kernel_rfl) (by kernel_rfl) (fun _ _ _ h => h) (Or.inl ⟨by kernel_rfl, ?_⟩) (by assumption) ?_
  rotate_left
  · (intro w hSw; (try dsimp only at hSw); go_simp; try with_reducible rfl)
  (repeat (first | simp only [Act.put] | simp only [List.setIfInBounds_toArray] | simp only [List.set_cons_succ] | simp only [List.set_cons_zero]))
  refine wpAnyH_take (i := 36) (oi := ⟨some 79, _, _, _, _, _⟩) (v := ?_) rfl (by kernel_rfl) (by kernel_rfl) (by kernel_rfl) (fun _ _ _ h => h) (Or.inl ⟨by kernel_rfl, ?_⟩) (by assumption) ?_
  rotate_left
  · (intro w hSw; (try dsimp only at hSw); go_simp; try with_reducible rfl)
  (repeat (first | simp only [Act.put] | simp only [List.setIfInBounds_toArray] | simp only [List.set_cons_succ] | simp only [List.set_cons_zero]))
  refine wpAnyH_take (i := 37) (oi := ⟨some 80, _, _, _, _, _⟩) (v := ?_) rfl (by kernel_rfl) (by kernel_rfl) (by kernel_rfl) (fun _ _ _ h => h) (Or.inl ⟨by kernel_rfl, ?_⟩) (by assumption) ?_
  rotate_left
  · (intro w hSw; (try dsimp only at hSw); go_simp; try with_reducible rfl)
  (repeat (first | simp only [Act.put] | simp only [List.setIfInBounds_toArray] | simp only [List.set_cons_succ] | simp only [List.set_cons_zero]))
  refine wpAnyH_take (i := 38) (oi := ⟨some 81, _, _, _, _, _⟩) (v := ?_) rfl (by kernel_rfl) (by kernel_rfl) (by kernel_rfl) (fun _ _ _ h => h) (Or.inl ⟨by kernel_rfl, ?_⟩) (by assumption) ?_
  rotate_left
  · (intro w hSw; (try dsimp only at hSw); go_simp; try with_reducible rfl)
  (repeat (first | simp only [Act.put] | simp only [List.setIfInBounds_toArray] | simp only [List.set_cons_succ] | simp only [List.set_cons_zero]))
  refine wpAnyH_take (i := 39) (oi := ⟨some 82, _, _, _, _, _⟩) (v := ?_) rfl (by kernel_rfl) (by kernel_rfl) (by kernel_rfl) (fun _ _ _ h => h) (Or.inl ⟨by kernel_rfl, ?_⟩) (by assumption) ?_
  rotate_left
  · (intro w hSw; (try dsimp only at hSw); go_simp; try with_reducible rfl)
  (repeat (first | simp only [Act.put] | simp only [List.setIfInBounds_toArray] | simp only [List.set_cons_succ] | simp only [List.set_cons_zero]))
  refine wpAnyH_take (i := 41) (oi := ⟨some 84, _, _, _, _, _⟩) (v := ?_) rfl (by kernel_rfl) (by kernel_rfl) (by kernel_rfl) (fun _ _ _ h => h) (Or.inl ⟨by kernel_rfl, ?_⟩) (by assumption) ?_
  rotate_left
  · (intro w hSw; (try dsimp only at hSw); go_simp; try with_reducible rfl)
  (repeat (first | simp only [Act.put] | simp only [List.setIfInBounds_toArray] | simp only [List.set_cons_succ] | simp only [List.set_cons_zero]))
  refine wpAnyH_take (i := 42) (oi := ⟨some 85, _, _, _, _, _⟩) (v := ?_) rfl (by kernel_rfl) (by kernel_rfl) (by kernel_rfl) (fun _ _ _ h => h) (Or.inl ⟨by kernel_rfl, ?_⟩) (by assumption) ?_
  rotate_left
  · (intro w hSw; (try dsimp only at hSw); go_simp; try with_reducible rfl)
  (repeat (first | simp only [Act.put] | simp only [List.setIfInBounds_toArray] | simp only [List.set_cons_succ] | simp only [List.set_cons_zero]))
  refine wpAnyH_ready (rs := [40]) (by kernel_rfl) (by simp) ?_
  refine AllReadyH.cons (o := ⟨some 83, _, _, _, _, _⟩) rfl (fun K hK => ?_) AllReadyH.nil
  go_simp
  ((with_reducible refine (HPr.out _ hHeld).mono ?_); rintro e y4 ⟨v4, rfl, hp4⟩; have hb := Lib.hid hp4.out.2)
  refine hK.out _ _ (by exact hHeld.trans (hb.out.mono hHeld.size)) (fun hHeld => ?_)
  clear hK K
  (repeat (first | simp only [Act.put] | simp only [List.setIfInBounds_toArray] | simp only [List.set_cons_succ] | simp only [List.set_cons_zero]))
  refine wpAnyH_ready (rs := [43]) (by kernel_rfl) (by simp) ?_
  refine AllReadyH.cons (o := ⟨some 86, _, _, _, _, _⟩) rfl (fun K hK => ?_) AllReadyH.nil
  go_simp
  ((with_reducible refine (HRPr.out _ hHeld).mono ?_); rintro e y5 ⟨v5, rfl, hp5⟩; have hb := Lib.hid hp5.out.2)
  refine hK.out _ _ (by exact hHeld.trans (hb.out.mono hHeld.size)) (fun hHeld => ?_)
  clear hK K
  (repeat (first | simp only [Act.put] | simp only [List.setIfInBounds_toArray] | simp only [List.set_cons_succ] | simp only [List.set_cons_zero]))
  refine wpAnyH_ready (rs := [44]) (by kernel_rfl) (by simp) ?_
  refine AllReadyH.cons (o := ⟨some 87, _, _, _, _, _⟩) rfl (fun K hK => ?_) AllReadyH.nil
  go_simp
  ((with_reducible refine (HPs.out _ _ _ _ _ (own_low hp4.out.1 hp5.out.2) hp5.out.1).mono ?_); rintro e y6 ⟨rfl, hb⟩)
  refine hK.out _ _ (by exact hHeld.trans (hb.out.mono hHeld.size)) (fun hHeld => ?_)
  clear hK K
  (repeat (first | simp only [Act.put] | simp only [List.setIfInBounds_toArray] | simp only [List.set_cons_succ] | simp only [List.set_cons_zero]))
  refine wpAnyH_take (i := 45) (oi := ⟨some 88, _, _, _, _, _⟩) (v := ?_) rfl (by kernel_rfl) (by kernel_rfl) (by kernel_rfl) (fun _ _ _ h => h) (Or.inl ⟨by kernel_rfl, ?_⟩) (by assumption) ?_
  rotate_left
  · (intro w hSw; (try dsimp only at hSw); go_simp; try with_reducible rfl)
  (repeat (first | simp only [Act.put] | simp only [List.setIfInBounds_toArray] | simp only [List.set_cons_succ] | simp only [List.set_cons_zero]))
  refine wpAnyH_take (i := 46) (oi := ⟨some 89, _, _, _, _, _⟩) (v := ?_) rfl (by kernel_rfl) (by kernel_rfl) (by kernel_rfl) (fun _ _ _ h => h) (Or.inl ⟨by kernel_rfl, ?_⟩) (by assumption) ?_
  rotate_left
  · (intro w hSw; (try dsimp only at hSw); go_simp; try with_reducible rfl)
  (repeat (first | simp only [Act.put] | simp only [List.setIfInBounds_toArray] | simp only [List.set_cons_succ] | simp only [List.set_cons_zero]))
  refine wpAnyH_take (i := 47) (oi := ⟨some 90, _, _, _, _, _⟩) (v := ?_) rfl (by kernel_rfl) (by kernel_rfl) (by kernel_rfl) (fun _ _ _ h => h) (Or.inl ⟨by kernel_rfl, ?_⟩) (by assumption) ?_
  rotate_left
  · (intro w hSw; (try dsimp only at hSw); go_simp; try with_reducible rfl)
  (repeat (first | simp only [Act.put] | simp only [List.setIfInBounds_toArray] | simp only [List.set_cons_succ] | simp only [List.set_cons_zero]))
  refine wpAnyH_take (i := 48) (oi := ⟨some 91, _, _, _, _, _⟩) (v := ?_) rfl (by kernel_rfl) (by kernel_rfl) (by kernel_rfl) (fun _ _ _ h => h) (Or.inl ⟨by kernel_rfl, ?_⟩) (by assumption) ?_
  rotate_left
  · (intro w hSw; (try dsimp only at hSw); go_simp; try with_reducible rfl)
  (repeat (first | simp only [Act.put] | simp only [List.setIfInBounds_toArray] | simp only [List.set_cons_succ] | simp only [List.set_cons_zero]))
  refine wpAnyH_take (i := 49) (oi := ⟨some 92, _, _, _, _, _⟩) (v := ?_) rfl (by kernel_rfl) (by kernel_rfl) (by kernel_rfl) (fun _ _ _ h => h) (Or.inl ⟨by kernel_rfl, ?_⟩) (by assumption) ?_
  rotate_left
  · (intro w hSw; (try dsimp only at hSw); go_simp; try with_reducible rfl)
  (repeat (first | simp only [Act.put] | simp only [List.setIfInBounds_toArray] | simp only [List.set_cons_succ] | simp only [List.set_cons_zero]))
  refine wpAnyH_take (i := 51) (oi := ⟨some 94, _, _, _, _, _⟩) (v := ?_) rfl (by kernel_rfl) (by kernel_rfl) (by kernel_rfl) (fun _ _ _ h => h) (Or.inl ⟨by kernel_rfl, ?_⟩) (by assumption) ?_
  rotate_left
  · (intro w hSw; (try dsimp only at hSw); go_simp; try with_reducible rfl)
  (repeat (first | simp only [Act.put] | simp only [List.setIfInBounds_toArray] | simp only [List.set_cons_succ] | simp only [List.set_cons_zero]))
  refine wpAnyH_take (i := 52) (oi := ⟨some 95, _, _, _, _, _⟩) (v := ?_) rfl (by kernel_rfl) (by kernel_rfl) (by kernel_rfl) (fun _ _ _ h => h) (Or.inl ⟨by kernel_rfl, ?_⟩) (by assumption) ?_
  rotate_left
  · (intro w hSw; (try dsimp only at hSw); go_simp; try with_reducible rfl)
  (repeat (first | simp only [Act.put] | simp only [List.setIfInBounds_toArray] | simp only [List.set_cons_succ] | simp only [List.set_cons_zero]))
  refine wpAnyH_take (i := 53) (oi := ⟨some 96, _, _, _, _, _⟩) (v := ?_) rfl (by kernel_rfl) (by kernel_rfl) (by kernel_rfl) (fun _ _ _ h => h) (Or.inl ⟨by kernel_rfl, ?_⟩) (by assumption) ?_
  rotate_left
  · (intro w hSw; (try dsimp only at hSw); go_simp; try with_reducible rfl)
  (repeat (first | simp only [Act.put] | simp only [List.setIfInBounds_toArray] | simp only [List.set_cons_succ] | simp only [List.set_cons_zero]))
  refine wpAnyH_ready (rs := [50]) (by kernel_rfl) (by simp) ?_
  refine AllReadyH.cons (o := ⟨some 93, _, _, _, _, _⟩) rfl (fun K hK => ?_) AllReadyH.nil
  go_simp
  ((with_reducible refine (HLv.out _ hHeld).mono ?_); rintro e y7 ⟨A7, c7, rfl, hb, ho7⟩)
  refine hK.out _ _ (by exact hHeld.trans (hb.out.mono hHeld.size)) (fun hHeld => ?_)
  clear hK K
  (repeat (first | simp only [Act.put] | simp only [List.setIfInBounds_toArray] | simp only [List.set_cons_succ] | simp only [List.set_cons_zero]))
  refine wpAnyH_ready (rs := [54]) (by kernel_rfl) (by simp) ?_
  refine AllReadyH.cons (o := ⟨some 97, _, _, _, _, _⟩) rfl (fun K hK => ?_) AllReadyH.nil
  go_simp
  ((with_reducible refine (HRLv.out _ hHeld).mono ?_); rintro e y8 ⟨A8, c8, rfl, hb, ho8⟩)
  refine hK.out _ _ (by exact hHeld.trans (hb.out.mono hHeld.size)) (fun hHeld => ?_)
  clear hK K
  (repeat (first | simp only [Act.put] | simp only [List.setIfInBounds_toArray] | simp only [List.set_cons_succ] | simp only [List.set_cons_zero]))
  refine wpAnyH_ready (rs := [55]) (by kernel_rfl) (by simp) ?_
  refine AllReadyH.cons (o := ⟨some 98, _, _, _, _, _⟩) rfl (fun K hK => ?_) AllReadyH.nil
  go_simp
  ((with_reducible refine (HSameL.out _ _ _ _ _ (ho7.out.below hb.out) ho8.out).mono ?_); rintro e y9 ⟨rfl, hb⟩)
  refine hK.out _ _ (by exact hHeld.trans (hb.out.mono hHeld.size)) (fun hHeld => ?_)
  clear hK K
  (repeat (first | simp only [Act.put] | simp only [List.setIfInBounds_toArray] | simp only [List.set_cons_succ] | simp only [List.set_cons_zero]))
  refine wpAnyH_take (i := 56) (oi := ⟨some 99, _, _, _, _, _⟩) (v := ?_) rfl (by kernel_rfl) (by kernel_rfl) (by kernel_rfl) (fun _ _ _ h => h) (Or.inl ⟨by kernel_rfl, ?_⟩) (by assumption) ?_
  rotate_left
  · (intro w hSw; (try dsimp only at hSw); go_simp; try with_reducible rfl)
  (repeat (first | simp only [Act.put] | simp only [List.setIfInBounds_toArray] | simp only [List.set_cons_succ] | simp only [List.set_cons_zero]))
  refine wpAnyH_take (i := 57) (oi := ⟨some 10, _, _, _, _, _⟩) (v := ?_) rfl (by kernel_rfl) (by kernel_rfl) (by kernel_rfl) (fun _ _ _ h => h) (Or.inl ⟨by kernel_rfl, ?_⟩) (by assumption) ?_
  rotate_left
  · (intro w hSw; (try dsimp only at hSw); go_simp; try with_reducible rfl)
  (repeat (first | simp only [Act.put] | simp only [List.setIfInBounds_toArray] | simp only [List.set_cons_succ] | simp only [List.set_cons_zero]))
  refine wpAnyH_done (by kernel_rfl) ?_ _
  have hF : Hid (Below W.heap.size W _) := Lib.hid (B4.out.trans (hHeld.mono B4.out.size))
  clear hHeld
  go_wp2_with fail
  go_ret
  exact ⟨rfl, hF⟩
end Go.Proofs.Ytgbmgdffgmablaa

/- GrovePlays, walked. (By mkpld.py.) -/
namespace Go.Proofs.Ytgbmgdffgmablaa
open Go.RowKit Go.Shelf Go.Sort Go.Maps Go.Lib
set_option linter.unusedVariables false

abbrev gNC (y : Op) : Array Value := #[.int .i64 y.kind, .int .u64 y.id, .int .i64 y.acc, .int .i64 y.side, .int .i64 y.price, .int .i64 y.qt, .int .u64 y.seq, .int .u64 y.n, .int .i64 y.qty]
theorem gnine_of2 {T : TypeId} {W : World} {c : Nat} {x : Op} (h : Cl T W c (gNC x)) :
    W.cell? ⟨c, 0, none⟩ = some (.int .i64 x.kind) ∧ W.cell? ⟨c, 1, none⟩ = some (.int .u64 x.id) ∧ W.cell? ⟨c, 2, none⟩ = some (.int .i64 x.acc) ∧ W.cell? ⟨c, 3, none⟩ = some (.int .i64 x.side) ∧ W.cell? ⟨c, 4, none⟩ = some (.int .i64 x.price) ∧ W.cell? ⟨c, 5, none⟩ = some (.int .i64 x.qt) ∧ W.cell? ⟨c, 6, none⟩ = some (.int .u64 x.seq) ∧ W.cell? ⟨c, 7, none⟩ = some (.int .u64 x.n) ∧ W.cell? ⟨c, 8, none⟩ = some (.int .i64 x.qty) :=
  ⟨(h.c 0).trans rfl, (h.c 1).trans rfl, (h.c 2).trans rfl, (h.c 3).trans rfl, (h.c 4).trans rfl, (h.c 5).trans rfl, (h.c 6).trans rfl, (h.c 7).trans rfl, (h.c 8).trans rfl⟩
def gTakeEnd (W : World) (p : Nat) (m : Nat × Nat) (s1 s2 : Gd) (id : Int) (M : List Od) (e : Ending) (w' : World) : Prop :=
  ∃ t1 t2, e = .returned (.tuple #[.agg (OC (gzO (getO id M))), .bool (getO id M).isSome]) ∧ Hid (gTrn W w' p m s1 s2 t1 t2 ∧ M.eraseIdx (idxN id M) = bookL t1.rs t2.rs)
theorem gtakeA (p : Nat) (m : Nat × Nat) (s1 s2 : Gd) (id : Int) (hwf : (Lit.int .u64 id).wf = true) (W : World) (H : gWhole W p m s1 s2) :
    Calls Try.prog 8 #[.pointer (some ⟨p, 0, none⟩), .int .u64 id] W (gTakeEnd W p m s1 s2 id (bookL s1.rs s2.rs)) := by
  by_cases hx : ∃ x ∈ bookL s1.rs s2.rs, x.id = id
  · obtain ⟨o, ho, hid⟩ := hx
    refine (gTake_c p m s1 s2 o id W H ho hid).mono ?_
    rintro e w' ⟨rfl, t1, t2, h⟩
    refine ⟨t1, t2, ?_, Lib.hid ⟨⟨h.out.tu.wh, h.out.tu.fr, h.out.tu.ft⟩, gtake_same H h.out ho hid⟩⟩
    rw [get_some H.ids ho hid]; rfl
  · have hno : ∀ x ∈ bookL s1.rs s2.rs, ¬ x.id = id := fun x hx' he => hx ⟨x, hx', he⟩
    refine (gTake_none p m s1 s2 id hwf W H hno).mono ?_
    rintro e w' ⟨rfl, h⟩
    refine ⟨s1, s2, ?_, Lib.hid ⟨gtrn_same H h.out, erase_none hno⟩⟩
    rw [get_none hno]; rfl
/-- The box of what is asked outlives a turn of the book. -/
theorem gtrn_box {T : TypeId} {W W' : World} {p c : Nat} {m : Nat × Nat} {s1 s2 t1 t2 : Gd} {cs : Array Value} (h : Cl T W c cs) (hn : ¬ gft p m s1 s2 c) (k : gTrn W W' p m s1 s2 t1 t2) : Cl T W' c cs := k.2.1.blk h hn
theorem gref_box {T : TypeId} {W W' : World} {wb c : Nat} {cs : Array Value} (h : Cl T W c cs) (hn : ¬ c = wb) (k : Fr (fun j => j = wb) W W') : Cl T W' c cs := k.blk h hn
theorem gbox_on {T : TypeId} {X : World} {c : Nat} {cs : Array Value} {o : Obj} (h : Cl T X c cs) : Cl T (X.alloc o) c cs := hd_prev (blk_lt h) h
theorem gpl_on {w X : World} {p wb : Nat} {m : Nat × Nat} {s1 s2 : Gd} {M : List Od} {o : Obj} (h : gPl w X p m s1 s2 wb M) : gPl w (X.alloc o) p m s1 s2 wb M := h.below ((Below.refl _ _).alloc (Nat.le_refl _) _)
theorem grb_blk_ne {W X : World} {wb : Nat} {M : List Od} (h : RB W wb M) (hs : W.heap.size ≤ X.heap.size) : ¬ X.heap.size = wb := by
  obtain ⟨_, _, h8, _⟩ := h
  have h9 := blk_lt h8
  omega
theorem gtrn_of_add {W W' : World} {p : Nat} {m : Nat × Nat} {s1 s2 t1 t2 : Gd} {o : Od} {c : Int} (H : gWhole W p m s1 s2) (k : gAddIs W W' p m s1 s2 t1 t2 o c) : gTrn W W' p m s1 s2 t1 t2 := gadd_whole H k
theorem gpl_clone {w W X Y : World} {p q wb : Nat} {m m' : Nat × Nat} {s1 s2 t1 t2 u1 u2 : Gd} {M : List Od} (h : gPl w W p m s1 s2 wb M) (k : gCloneIs W X q m' t1 t2 M) (t : gTrn X Y p m s1 s2 u1 u2) : gPl w Y q m' t1 t2 wb M := by
  refine ⟨k.wh.fr t.2.1 (fun j hj hf => ?_), grb_fr (rb_low h.rb k.be) (h.wh.below k.be) t.2.1, (h.be.trans (k.be.mono h.be.size)).trans (t.2.1.below h.lo (Nat.le_trans h.be.size k.be.size)), fun j hj => Nat.le_trans h.be.size (k.lo j hj), h.low⟩
  have h1 := k.lo j hj
  have h2 := gft.lt h.wh _ hf
  omega
theorem gpl_new {w w1 : World} {p : Nat} {m : Nat × Nat} {s1 s2 : Gd} (h : gNewIs w w1 p m s1 s2) : gPl w (w1.alloc (.cells #[.slice none 0 0] 48)) p m s1 s2 w1.heap.size [] := by
  have b2 : Below w1.heap.size w1 (w1.alloc (.cells #[.slice none 0 0] 48)) := (Below.refl _ _).alloc (Nat.le_refl _) _
  exact ⟨h.wh.below b2, ⟨none, 0, hd_last rfl, World.ownsRow_nil _ _ _ _⟩, h.be.trans (b2.mono h.be.size), h.lo, h.be.size⟩
theorem ggood_qty {x : Od} (h : goodO x = true) : x.qty ≤ 1099511627776 := by
  unfold goodO at h
  simp only [Bool.and_eq_true, decide_eq_true_eq] at h
  omega
theorem gop_od {w : World} {y : Op} (h : Op.ok w y) : Od.ok w ⟨y.id, y.acc, y.side, y.price, y.qt, y.seq⟩ := by
  unfold Op.ok at h
  unfold Od.ok
  exact ⟨h.2.1, h.2.2.1, h.2.2.2.1, h.2.2.2.2.1, h.2.2.2.2.2.1, h.2.2.2.2.2.2.1⟩

set_option maxHeartbeats 16000000 in
set_option maxRecDepth 100000 in
theorem gplays_w (a0 : Option Addr) (len0 cap0 : Nat) (ops : List Op) (sd pr : Int) (hsd : (Lit.int .i64 sd).wf = true) (w : World) (hO : Ops w a0 len0 ops) :
    Calls Try.prog 6 #[.slice a0 len0 cap0, .int .i64 sd, .int .i64 pr] w fun e w' => e = .returned (.bool true) ∧ Below w.heap.size w w' := by
  have mixed : Try.prog.follows .mixedOrders = true := by kernel_rfl
  have HL := Lib.hid lives14_c
  by_cases h64 : len0 ≤ 120
  case neg =>
    have hz : (120 : Int) < (len0 : Int) := by omega
    clear hO h64
    go_enter Try.func6, Try.ntmps6
    go_wp2_with ((with_reducible refine (HL.out _).mono ?_); rintro e w2 ⟨rfl, k2⟩; have G2 : Hid (Below w.heap.size w w2) := Lib.hid k2; clear k2)
    go_ret
    exact ⟨rfl, G2.out⟩
  have hz : ¬ (120 : Int) < (len0 : Int) := by omega
  have HN0 : Hid (ops.length = len0) := hO.1
  have HO := Lib.hid hO
  have HN := Lib.hid (gNew_is w)
  clear hO h64
  go_enter Try.func6, Try.ntmps6
  go_wp2_with ((with_reducible refine HN.out.mono ?_); rintro e w1 ⟨pa, ma, z1, z2, rfl, hn1⟩; clear HN)
  have NZ := Lib.hid hn1.out.nil
  obtain ⟨W0, eW0⟩ : ∃ W0, w1.alloc (.cells #[.slice none 0 0] 48) = W0 := ⟨_, rfl⟩
  obtain ⟨wb, ewb⟩ : ∃ x, w1.heap.size = x := ⟨_, rfl⟩
  have I0 : Hid (gPl w W0 pa ma z1 z2 wb []) := by
    have h := gpl_new hn1.out
    rw [eW0, ewb] at h
    exact Lib.hid h
  rw [eW0, ewb]
  clear eW0 ewb hn1
  clear w1
  go_loopw [7, 28] (fun s7 s28 wr => ∃ (k p : Nat) (m : Nat × Nat) (s1 s2 : Gd), s7 = .pointer (some ⟨p, 0, none⟩) ∧ s28 = .int .i64 (k : Int) ∧ Hid (k ≤ len0 ∧ gPl w wr p m s1 s2 wb (bookL s1.rs s2.rs))) (fun _ s28 _ => match s28 with | .int _ z => len0 - z.toNat | _ => 0)
  case atStart => exact ⟨0, pa, ma, z1, z2, rfl, rfl, Nat.zero_le _, by rw [NZ.out]; exact I0.out⟩
  case round =>
    clear I0
    obtain ⟨k, p, m, s1, s2, rfl, rfl, hd⟩ := hrel
    by_cases hk : k < len0
    · have hkI : (k : Int) < (len0 : Int) := by omega
      have h1 := (HO.out.below hd.out.2.be).2.2.2
      rcases h1 with h1 | ⟨b, off, rfl, _, hc⟩
      · omega
      have hx := hc k hk
      have hyok := HO.out.2.2.1 (ops[k]!) (by rw [getElem!_pos ops k (by rw [HN0.out]; exact hk)]; exact List.getElem_mem (by rw [HN0.out]; exact hk))
      clear hc
      obtain ⟨y, ey⟩ : ∃ y, ops[k]! = y := ⟨_, rfl⟩
      rw [ey] at hx hyok
      obtain ⟨x0, x1, x2, x3, x4, x5, x6, x7, x8⟩ := hx
      have Hk := Lib.hid hk
      have HY := Lib.hid hyok
      obtain ⟨M, hM⟩ : ∃ M, bookL s1.rs s2.rs = M := ⟨_, rfl⟩
      have HM := Lib.hid hM
      have HPa : Hid (gPl w (wr.alloc (.cells #[.int .i64 y.kind, .int .u64 y.id, .int .i64 y.acc, .int .i64 y.side, .int .i64 y.price, .int .i64 y.qt, .int .u64 y.seq, .int .u64 y.n, .int .i64 y.qty] 55)) p m s1 s2 wb M) := Lib.hid (by rw [← hM]; exact gpl_on hd.out.2)
      have HOb : Hid (Cl 55 (wr.alloc (.cells #[.int .i64 y.kind, .int .u64 y.id, .int .i64 y.acc, .int .i64 y.side, .int .i64 y.price, .int .i64 y.qt, .int .u64 y.seq, .int .u64 y.n, .int .i64 y.qty] 55)) wr.heap.size (gNC y)) := Lib.hid (hd_last rfl)
      have hnf : Hid (¬ gft p m s1 s2 wr.heap.size) := Lib.hid (fun h => by have := gft.lt hd.out.2.wh _ h; omega)
      have hnw : Hid (¬ wr.heap.size = wb) := Lib.hid (fun e => by obtain ⟨_, _, h, _⟩ := hd.out.2.rb; have := blk_lt h; omega)
      have HYn := Lib.hid (WalkArith.wf_u64 hyok.2.2.2.2.2.2.2.1)
      have HLk : Hid (∀ X p (m : Nat × Nat) t1 t2, gPl w X p m t1 t2 wb (bookL t1.rs t2.rs) → Calls Try.prog 24 #[.pointer (some ⟨p, 0, none⟩), .pointer (some ⟨wb, 0, none⟩), .int .u64 y.n, .int .i64 sd, .int .i64 pr] X fun e w' => e = .returned (.bool true) ∧ Hid (Below X.heap.size X w')) := Lib.hid (fun X p m t1 t2 h => glike_w y.n sd pr HYn.out hsd h)
      have HTx : Hid (∀ X, gWhole X p m s1 s2 → Calls Try.prog 8 #[.pointer (some ⟨p, 0, none⟩), .int .u64 y.n] X (gTakeEnd X p m s1 s2 y.n M)) := Lib.hid (fun X h => by rw [← hM]; exact gtakeA p m s1 s2 y.n HYn.out X h)
      have hM64 : M.length ≤ 64 := by rw [← hM]; exact hd.out.2.wh.len
      have HMok : Hid (∀ x ∈ M, Od.ok w x ∧ goodO x = true) := Lib.hid (fun x hx => by rw [← hM] at hx; exact hd.out.2.wh.ok x hx)
      clear hk ey hyok hM
      obtain ⟨g, hg⟩ : ∃ g, gzO (getO y.n M) = g := ⟨_, rfl⟩
      obtain ⟨gb, hgb⟩ : ∃ g, (getO y.n M).isSome = g := ⟨_, rfl⟩
      have heqg := geqlR g
      by_cases e1 : y.kind = 1
      · have f1 : (y.kind == 1) = true := by simp [e1]
        have f2 : (y.kind == 2) = false := by simp [e1]
        have f3 : (y.kind == 3) = false := by simp [e1]
        have HT := Lib.hid (HTx.out _ HPa.out.wh)
        unfold gTakeEnd at HT
        rw [hg, hgb] at HT
        have HRT : Hid (∀ X, RB X wb M → Calls Try.prog 22 #[.pointer (some ⟨wb, 0, none⟩), .int .u64 y.n] X fun e w' => e = .returned (.tuple #[.agg (OC g), .bool gb]) ∧ Hid (RTk X w' wb M y.n)) := Lib.hid (fun X h => by
          have k := rTake_c wb y.n M X h (by omega)
          rw [gopt_zO, hg, hgb] at k
          exact k)
        clear e1 hg hgb HTx
        go_wp2_with (first | ((with_reducible refine HT.out.mono ?_); rintro e w3 ⟨t1, t2, rfl, h3⟩; have P3 : Hid (gPl w (w3.alloc (.cells (OC g) 24)) p m t1 t2 wb M) := Lib.hid (gpl_on (HPa.out.turn h3.out.1)); have O3 : Cl 55 (w3.alloc (.cells (OC g) 24)) wr.heap.size (gNC y) := gbox_on (gtrn_box HOb.out hnf.out h3.out.1); have G3 : Hid (Cl 24 (w3.alloc (.cells (OC g) 24)) w3.heap.size (OC g)) := Lib.hid (hd_last rfl); have HO3 := Lib.hid O3; obtain ⟨z0, z1, z2, z3, z4, z5, z6, z7, z8⟩ := gnine_of2 O3; clear HT x0 x1 x2 x3 x4 x5 x6 x7 x8 O3) | ((with_reducible refine (HRT.out _ P3.out.rb).mono ?_); rintro e w4 ⟨rfl, h4⟩; have P4 : Hid (gPl w (w4.alloc (.cells (OC g) 50)) p m t1 t2 wb (bookL t1.rs t2.rs)) := Lib.hid (gpl_on (P3.out.ref (by have := h4.out.1; rw [h3.out.2] at this; exact this) h4.out.2)); have O4 : Cl 55 (w4.alloc (.cells (OC g) 50)) wr.heap.size (gNC y) := gbox_on (gref_box HO3.out hnw.out h4.out.2); have G4 : Cl 24 (w4.alloc (.cells (OC g) 50)) w3.heap.size (OC g) := gbox_on (gref_box G3.out (grb_blk_ne HPa.out.rb h3.out.1.2.1.size) h4.out.2); have G5 : Cl 50 (w4.alloc (.cells (OC g) 50)) w4.heap.size (OC g) := hd_last rfl; clear z0 z1 z2 z3 z4 z5 z6 z7 z8; obtain ⟨z0, z1, z2, z3, z4, z5, z6, z7, z8⟩ := gnine_of2 O4; obtain ⟨g0, g1, g2, g3, g4, g5⟩ := six_of G4; obtain ⟨j0, j1, j2, j3, j4, j5⟩ := six_of G5; clear HRT O4 G4 G5 G3 HO3) | ((with_reducible refine (HLk.out _ _ _ _ _ P4.out).mono ?_); rintro e w5 ⟨rfl, h5⟩))
        exact ⟨⟨k + 1, p, m, t1, t2, rfl, rfl, Hk.out, P4.out.below h5.out⟩, less_left Hk.out⟩
      by_cases e2 : y.kind = 2
      · have f1 : (y.kind == 1) = false := by simp [e2]
        have f2 : (y.kind == 2) = true := by simp [e2]
        have f3 : (y.kind == 3) = false := by simp [e2]
        have HCt : Hid (∀ X, gWhole X p m s1 s2 → Calls Try.prog 11 #[.pointer (some ⟨p, 0, none⟩), .int .u64 y.n, .int .i64 y.qty] X fun e w' => ∃ c t1 t2, e = .returned (.int .i64 c) ∧ Hid (gCutIs X w' p m s1 s2 t1 t2 y.n y.qty c)) := Lib.hid (fun X h => gCut_c p m s1 s2 y.n y.qty HYn.out X h)
        have HRC : Hid (∀ X, RB X wb M → ∀ c L, cutR y.n y.qty M = (c, L) → Calls Try.prog 23 #[.pointer (some ⟨wb, 0, none⟩), .int .u64 y.n, .int .i64 y.qty] X fun e w' => e = .returned (.int .i64 c) ∧ Hid (RB w' wb L ∧ Fr (fun k => k = wb) X w')) := Lib.hid (fun X h c L hcL => by
          have k := rCut_c wb y.n y.qty M X h (by omega) (fun x hx => ggood_qty (HMok.out x hx).2)
          rw [hcL] at k
          exact k)
        clear e1 e2 hg hgb HTx heqg
        go_wp2_with fail
        refine wp_region_held_drew (S := fun X => Cl 55 X wr.heap.size (gNC y)) (by kernel_rfl) (by exact HOb.out) (fun hHeld => ?_)
        refine wpAnyH_take (i := 0) (oi := ⟨some 69, _, _, _, _, _⟩) (v := ?_) rfl (by kernel_rfl) (by kernel_rfl) (by kernel_rfl) (fun _ _ _ h => h) (Or.inl ⟨by kernel_rfl, ?_⟩) (by assumption) ?_
        rotate_left
        · (intro w hSw; (try dsimp only at hSw); go_simp; try with_reducible rfl)
        (repeat (first | simp only [Act.put] | simp only [List.setIfInBounds_toArray] | simp only [List.set_cons_succ] | simp only [List.set_cons_zero]))
        refine wpAnyH_take (i := 1) (oi := ⟨some 70, _, _, _, _, _⟩) (v := ?_) rfl (by kernel_rfl) (by kernel_rfl) (by kernel_rfl) (fun _ _ _ h => h) (Or.inl ⟨by kernel_rfl, ?_⟩) (by assumption) ?_
        rotate_left
        · (intro w hSw; (try dsimp only at hSw); go_simp; try with_reducible rfl)
        (repeat (first | simp only [Act.put] | simp only [List.setIfInBounds_toArray] | simp only [List.set_cons_succ] | simp only [List.set_cons_zero]))
        refine wpAnyH_take (i := 2) (oi := ⟨some 71, _, _, _, _, _⟩) (v := ?_) rfl (by kernel_rfl) (by kernel_rfl) (by kernel_rfl) (fun _ _ _ h => h) (Or.inl ⟨by kernel_rfl, ?_⟩) (by assumption) ?_
        rotate_left
        · (intro w hSw; obtain ⟨hs0, hs1, hs2, hs3, hs4, hs5, hs6, hs7, hs8⟩ := gnine_of2 hSw; (try dsimp only at hSw); go_simp; try with_reducible rfl)
        (repeat (first | simp only [Act.put] | simp only [List.setIfInBounds_toArray] | simp only [List.set_cons_succ] | simp only [List.set_cons_zero]))
        refine wpAnyH_take (i := 3) (oi := ⟨some 72, _, _, _, _, _⟩) (v := ?_) rfl (by kernel_rfl) (by kernel_rfl) (by kernel_rfl) (fun _ _ _ h => h) (Or.inl ⟨by kernel_rfl, ?_⟩) (by assumption) ?_
        rotate_left
        · (intro w hSw; (try dsimp only at hSw); go_simp; try with_reducible rfl)
        (repeat (first | simp only [Act.put] | simp only [List.setIfInBounds_toArray] | simp only [List.set_cons_succ] | simp only [List.set_cons_zero]))
        refine wpAnyH_take (i := 4) (oi := ⟨some 73, _, _, _, _, _⟩) (v := ?_) rfl (by kernel_rfl) (by kernel_rfl) (by kernel_rfl) (fun _ _ _ h => h) (Or.inl ⟨by kernel_rfl, ?_⟩) (by assumption) ?_
        rotate_left
        · (intro w hSw; obtain ⟨hs0, hs1, hs2, hs3, hs4, hs5, hs6, hs7, hs8⟩ := gnine_of2 hSw; (try dsimp only at hSw); go_simp; try with_reducible rfl)
        (repeat (first | simp only [Act.put] | simp only [List.setIfInBounds_toArray] | simp only [List.set_cons_succ] | simp only [List.set_cons_zero]))
        refine wpAnyH_take (i := 6) (oi := ⟨some 75, _, _, _, _, _⟩) (v := ?_) rfl (by kernel_rfl) (by kernel_rfl) (by kernel_rfl) (fun _ _ _ h => h) (Or.inl ⟨by kernel_rfl, ?_⟩) (by assumption) ?_
        rotate_left
        · (intro w hSw; (try dsimp only at hSw); go_simp; try with_reducible rfl)
        (repeat (first | simp only [Act.put] | simp only [List.setIfInBounds_toArray] | simp only [List.set_cons_succ] | simp only [List.set_cons_zero]))
        refine wpAnyH_take (i := 7) (oi := ⟨some 76, _, _, _, _, _⟩) (v := ?_) rfl (by kernel_rfl) (by kernel_rfl) (by kernel_rfl) (fun _ _ _ h => h) (Or.inl ⟨by kernel_rfl, ?_⟩) (by assumption) ?_
        rotate_left
        · (intro w hSw; (try dsimp only at hSw); go_simp; try with_reducible rfl)
        (repeat (first | simp only [Act.put] | simp only [List.setIfInBounds_toArray] | simp only [List.set_cons_succ] | simp only [List.set_cons_zero]))
        refine wpAnyH_take (i := 8) (oi := ⟨some 77, _, _, _, _, _⟩) (v := ?_) rfl (by kernel_rfl) (by kernel_rfl) (by kernel_rfl) (fun _ _ _ h => h) (Or.inl ⟨by kernel_rfl, ?_⟩) (by assumption) ?_
        rotate_left
        · (intro w hSw; obtain ⟨hs0, hs1, hs2, hs3, hs4, hs5, hs6, hs7, hs8⟩ := gnine_of2 hSw; (try dsimp only at hSw); go_simp; try with_reducible rfl)
        (repeat (first | simp only [Act.put] | simp only [List.setIfInBounds_toArray] | simp only [List.set_cons_succ] | simp only [List.set_cons_zero]))
        refine wpAnyH_take (i := 9) (oi := ⟨some 78, _, _, _, _, _⟩) (v := ?_) rfl (by kernel_rfl) (by kernel_rfl) (by kernel_rfl) (fun _ _ _ h => h) (Or.inl ⟨by kernel_rfl, ?_⟩) (by assumption) ?_
        rotate_left
        · (intro w hSw; (try dsimp only at hSw); go_simp; try with_reducible rfl)
        (repeat (first | simp only [Act.put] | simp only [List.setIfInBounds_toArray] | simp only [List.set_cons_succ] | simp only [List.set_cons_zero]))
        refine wpAnyH_take (i := 10) (oi := ⟨some 79, _, _, _, _, _⟩) (v := ?_) rfl (by kernel_rfl) (by kernel_rfl) (by kernel_rfl) (fun _ _ _ h => h) (Or.inl ⟨by kernel_rfl, ?_⟩) (by assumption) ?_
        rotate_left
        · (intro w hSw; obtain ⟨hs0, hs1, hs2, hs3, hs4, hs5, hs6, hs7, hs8⟩ := gnine_of2 hSw; (try dsimp only at hSw); go_simp; try with_reducible rfl)
        (repeat (first | simp only [Act.put] | simp only [List.setIfInBounds_toArray] | simp only [List.set_cons_succ] | simp only [List.set_cons_zero]))
        refine wpAnyH_ready (rs := [5]) (by kernel_rfl) (by simp) ?_
        refine AllReadyH.cons (o := ⟨some 74, _, _, _, _, _⟩) rfl (fun K hK => ?_) AllReadyH.nil
        go_simp
        ((with_reducible refine (HCt.out _ ((HPa.out.wh).below (Below.refl _ _).drew)).mono ?_); rintro e y1 ⟨cc, t1, t2, rfl, h1⟩)
        have hc1 := gcut_same ((HPa.out.wh).below (Below.refl _ _).drew) h1.out
        have P1 : Hid (gPl w y1 p m t1 t2 wb M) := Lib.hid ((HPa.out.below (Below.refl _ _).drew).turn hc1.2)
        have HE := Lib.hid hc1.1
        have HK1 : Hid (Cl 55 y1 wr.heap.size (gNC y)) := Lib.hid (gtrn_box hHeld hnf.out hc1.2)
        clear hc1
        refine hK.out _ _ (by exact HK1.out) (fun hHeld => ?_)
        clear hK K
        (repeat (first | simp only [Act.put] | simp only [List.setIfInBounds_toArray] | simp only [List.set_cons_succ] | simp only [List.set_cons_zero]))
        refine wpAnyH_ready (rs := [11]) (by kernel_rfl) (by simp) ?_
        refine AllReadyH.cons (o := ⟨some 80, _, _, _, _, _⟩) rfl (fun K hK => ?_) AllReadyH.nil
        go_simp
        ((with_reducible refine (HRC.out _ P1.out.rb cc (bookL t1.rs t2.rs) (by rw [← HM.out]; exact HE.out)).mono ?_); rintro e y2 ⟨rfl, h2⟩)
        have P2 : Hid (gPl w y2 p m t1 t2 wb (bookL t1.rs t2.rs)) := Lib.hid (P1.out.ref h2.out.1 h2.out.2)
        have HK2 : Hid (Cl 55 y2 wr.heap.size (gNC y)) := Lib.hid (gref_box hHeld hnw.out h2.out.2)
        have hcc : (cc == cc) = true := by simp
        refine hK.out _ _ (by exact HK2.out) (fun hHeld => ?_)
        clear hK K
        (repeat (first | simp only [Act.put] | simp only [List.setIfInBounds_toArray] | simp only [List.set_cons_succ] | simp only [List.set_cons_zero]))
        refine wpAnyH_take (i := 12) (oi := ⟨some 81, _, _, _, _, _⟩) (v := ?_) rfl (by kernel_rfl) (by kernel_rfl) (by kernel_rfl) (fun _ _ _ h => h) (Or.inl ⟨by kernel_rfl, ?_⟩) (by assumption) ?_
        rotate_left
        · (intro w hSw; (try dsimp only at hSw); go_simp; try with_reducible rfl)
        (repeat (first | simp only [Act.put] | simp only [List.setIfInBounds_toArray] | simp only [List.set_cons_succ] | simp only [List.set_cons_zero]))
        refine wpAnyH_take (i := 13) (oi := ⟨some 11, _, _, _, _, _⟩) (v := ?_) rfl (by kernel_rfl) (by kernel_rfl) (by kernel_rfl) (fun _ _ _ h => h) (Or.inl ⟨by kernel_rfl, ?_⟩) (by assumption) ?_
        rotate_left
        · (intro w hSw; (try dsimp only at hSw); go_simp; try with_reducible rfl)
        (repeat (first | simp only [Act.put] | simp only [List.setIfInBounds_toArray] | simp only [List.set_cons_succ] | simp only [List.set_cons_zero]))
        refine wpAnyH_done (by kernel_rfl) ?_ _
        have HPf := P2
        obtain ⟨z0, z1, z2, z3, z4, z5, z6, z7, z8⟩ := gnine_of2 HK2.out
        clear x0 x1 x2 x3 x4 x5 x6 x7 x8
        go_wp2_with ((with_reducible refine (HLk.out _ _ _ _ _ HPf.out).mono ?_); rintro e w5 ⟨rfl, h5⟩)
        exact ⟨⟨k + 1, p, m, t1, t2, rfl, rfl, Hk.out, HPf.out.below h5.out⟩, less_left Hk.out⟩
      by_cases e3 : y.kind = 3
      · have f1 : (y.kind == 1) = false := by simp [e3]
        have f2 : (y.kind == 2) = false := by simp [e3]
        have f3 : (y.kind == 3) = true := by simp [e3]
        have HCl := Lib.hid (gClone_c p m s1 s2 _ HPa.out.wh)
        rw [HM.out] at HCl
        clear e1 e2 e3 hg hgb heqg
        go_wp2_with fail
        ((with_reducible refine HCl.out.mono ?_); rintro e w3 ⟨q, m', t1, t2, rfl, h3⟩)
        have O3 : Cl 55 w3 wr.heap.size (gNC y) := (h3.out.be.block _ (blk_lt HOb.out)).trans HOb.out
        have HO3 := Lib.hid O3
        obtain ⟨z0, z1, z2, z3, z4, z5, z6, z7, z8⟩ := gnine_of2 O3
        have HT := Lib.hid (HTx.out w3 (HPa.out.wh.below h3.out.be))
        clear HCl O3 x0 x1 x2 x3 x4 x5 x6 x7 x8 HTx
        go_wp2_with fail
        ((with_reducible refine HT.out.mono ?_); rintro e w4 ⟨u1, u2, rfl, h4⟩)
        have P4 : Hid (gPl w w4 q m' t1 t2 wb (bookL t1.rs t2.rs)) := Lib.hid (by rw [h3.out.eq]; exact gpl_clone HPa.out h3.out h4.out.1)
        have O4 : Cl 55 w4 wr.heap.size (gNC y) := gtrn_box HO3.out hnf.out h4.out.1
        clear z0 z1 z2 z3 z4 z5 z6 z7 z8
        obtain ⟨z0, z1, z2, z3, z4, z5, z6, z7, z8⟩ := gnine_of2 O4
        clear HT O4
        go_wp2_with ((with_reducible refine (HLk.out _ _ _ _ _ P4.out).mono ?_); rintro e w5 ⟨rfl, h5⟩)
        exact ⟨⟨k + 1, q, m', t1, t2, rfl, rfl, Hk.out, P4.out.below h5.out⟩, less_left Hk.out⟩
      have f1 : (y.kind == 1) = false := by simp [e1]
      have f2 : (y.kind == 2) = false := by simp [e2]
      have f3 : (y.kind == 3) = false := by simp [e3]
      have HAd : Hid (∀ X, gWhole X p m s1 s2 → Calls Try.prog 10 #[.pointer (some ⟨p, 0, none⟩), .agg #[.int .u64 y.id, .int .i64 y.acc, .int .i64 y.side, .int .i64 y.price, .int .i64 y.qt, .int .u64 y.seq]] X fun e w' => ∃ c t1 t2, e = .returned (.int .i64 c) ∧ Hid (gAddIs X w' p m s1 s2 t1 t2 ⟨y.id, y.acc, y.side, y.price, y.qt, y.seq⟩ c)) := Lib.hid (fun X h => gAdd_c p m s1 s2 ⟨y.id, y.acc, y.side, y.price, y.qt, y.seq⟩ X h (gop_od HY.out))
      have HRA : Hid (∀ X, RB X wb M → Calls Try.prog 19 #[.pointer (some ⟨wb, 0, none⟩), .agg #[.int .u64 y.id, .int .i64 y.acc, .int .i64 y.side, .int .i64 y.price, .int .i64 y.qt, .int .u64 y.seq]] X fun e w' => ∃ c M', e = .returned (.int .i64 c) ∧ Hid (RAdd X w' wb M M' ⟨y.id, y.acc, y.side, y.price, y.qt, y.seq⟩ c)) := Lib.hid (fun X h => rAdd_c wb M ⟨y.id, y.acc, y.side, y.price, y.qt, y.seq⟩ X h (by omega) (fun x hx => (HMok.out x hx).1) (gop_od HY.out))
      clear e1 e2 e3 hg hgb HTx heqg
      go_wp2_with fail
      refine wp_region_held_drew (S := fun X => Cl 55 X wr.heap.size (gNC y)) (by kernel_rfl) (by exact HOb.out) (fun hHeld => ?_)
      refine wpAnyH_take (i := 0) (oi := ⟨some 34, _, _, _, _, _⟩) (v := ?_) rfl (by kernel_rfl) (by kernel_rfl) (by kernel_rfl) (fun _ _ _ h => h) (Or.inl ⟨by kernel_rfl, ?_⟩) (by assumption) ?_
      rotate_left
      · (intro w hSw; (try dsimp only at hSw); go_simp; try with_reducible rfl)
      (repeat (first | simp only [Act.put] | simp only [List.setIfInBounds_toArray] | simp only [List.set_cons_succ] | simp only [List.set_cons_zero]))
      refine wpAnyH_take (i := 1) (oi := ⟨some 35, _, _, _, _, _⟩) (v := ?_) rfl (by kernel_rfl) (by kernel_rfl) (by kernel_rfl) (fun _ _ _ h => h) (Or.inl ⟨by kernel_rfl, ?_⟩) (by assumption) ?_
      rotate_left
      · (intro w hSw; (try dsimp only at hSw); go_simp; try with_reducible rfl)
      (repeat (first | simp only [Act.put] | simp only [List.setIfInBounds_toArray] | simp only [List.set_cons_succ] | simp only [List.set_cons_zero]))
      refine wpAnyH_take (i := 2) (oi := ⟨some 36, _, _, _, _, _⟩) (v := ?_) rfl (by kernel_rfl) (by kernel_rfl) (by kernel_rfl) (fun _ _ _ h => h) (Or.inl ⟨by kernel_rfl, ?_⟩) (by assumption) ?_
      rotate_left
      · (intro w hSw; obtain ⟨hs0, hs1, hs2, hs3, hs4, hs5, hs6, hs7, hs8⟩ := gnine_of2 hSw; (try dsimp only at hSw); go_simp; try with_reducible rfl)
      (repeat (first | simp only [Act.put] | simp only [List.setIfInBounds_toArray] | simp only [List.set_cons_succ] | simp only [List.set_cons_zero]))
      refine wpAnyH_take (i := 4) (oi := ⟨some 38, _, _, _, _, _⟩) (v := ?_) rfl (by kernel_rfl) (by kernel_rfl) (by kernel_rfl) (fun _ _ _ h => h) (Or.inl ⟨by kernel_rfl, ?_⟩) (by assumption) ?_
      rotate_left
      · (intro w hSw; (try dsimp only at hSw); go_simp; try with_reducible rfl)
      (repeat (first | simp only [Act.put] | simp only [List.setIfInBounds_toArray] | simp only [List.set_cons_succ] | simp only [List.set_cons_zero]))
      refine wpAnyH_take (i := 5) (oi := ⟨some 39, _, _, _, _, _⟩) (v := ?_) rfl (by kernel_rfl) (by kernel_rfl) (by kernel_rfl) (fun _ _ _ h => h) (Or.inl ⟨by kernel_rfl, ?_⟩) (by assumption) ?_
      rotate_left
      · (intro w hSw; (try dsimp only at hSw); go_simp; try with_reducible rfl)
      (repeat (first | simp only [Act.put] | simp only [List.setIfInBounds_toArray] | simp only [List.set_cons_succ] | simp only [List.set_cons_zero]))
      refine wpAnyH_take (i := 6) (oi := ⟨some 40, _, _, _, _, _⟩) (v := ?_) rfl (by kernel_rfl) (by kernel_rfl) (by kernel_rfl) (fun _ _ _ h => h) (Or.inl ⟨by kernel_rfl, ?_⟩) (by assumption) ?_
      rotate_left
      · (intro w hSw; obtain ⟨hs0, hs1, hs2, hs3, hs4, hs5, hs6, hs7, hs8⟩ := gnine_of2 hSw; (try dsimp only at hSw); go_simp; try with_reducible rfl)
      (repeat (first | simp only [Act.put] | simp only [List.setIfInBounds_toArray] | simp only [List.set_cons_succ] | simp only [List.set_cons_zero]))
      refine wpAnyH_ready (rs := [3]) (by kernel_rfl) (by simp) ?_
      refine AllReadyH.cons (o := ⟨some 37, _, _, _, _, _⟩) rfl (fun K hK => ?_) AllReadyH.nil
      go_simp
      ((with_reducible refine (HAd.out _ ((HPa.out.wh).below (Below.refl _ _).drew)).mono ?_); rintro e y1 ⟨cc, t1, t2, rfl, h1⟩)
      have hc1 := gtrn_of_add ((HPa.out.wh).below (Below.refl _ _).drew) h1.out
      have P1 : Hid (gPl w y1 p m t1 t2 wb M) := Lib.hid ((HPa.out.below (Below.refl _ _).drew).turn hc1)
      have HK1 : Hid (Cl 55 y1 wr.heap.size (gNC y)) := Lib.hid (gtrn_box hHeld hnf.out hc1)
      clear hc1
      refine hK.out _ _ (by exact HK1.out) (fun hHeld => ?_)
      clear hK K
      (repeat (first | simp only [Act.put] | simp only [List.setIfInBounds_toArray] | simp only [List.set_cons_succ] | simp only [List.set_cons_zero]))
      refine wpAnyH_ready (rs := [7]) (by kernel_rfl) (by simp) ?_
      refine AllReadyH.cons (o := ⟨some 41, _, _, _, _, _⟩) rfl (fun K hK => ?_) AllReadyH.nil
      go_simp
      ((with_reducible refine (HRA.out _ P1.out.rb).mono ?_); rintro e y2 ⟨cc', M', rfl, h2⟩)
      obtain ⟨rfl, hM'⟩ := gadd_same h1.out h2.out HM.out.symm hM64
      have P2 : Hid (gPl w y2 p m t1 t2 wb (bookL t1.rs t2.rs)) := Lib.hid (P1.out.ref (by rw [← hM']; exact h2.out.1) h2.out.2.1)
      have HK2 : Hid (Cl 55 y2 wr.heap.size (gNC y)) := Lib.hid (gref_box hHeld hnw.out h2.out.2.1)
      have hcc : (cc == cc) = true := by simp
      clear hM'
      refine hK.out _ _ (by exact HK2.out) (fun hHeld => ?_)
      clear hK K
      (repeat (first | simp only [Act.put] | simp only [List.setIfInBounds_toArray] | simp only [List.set_cons_succ] | simp only [List.set_cons_zero]))
      refine wpAnyH_take (i := 8) (oi := ⟨some 42, _, _, _, _, _⟩) (v := ?_) rfl (by kernel_rfl) (by kernel_rfl) (by kernel_rfl) (fun _ _ _ h => h) (Or.inl ⟨by kernel_rfl, ?_⟩) (by assumption) ?_
      rotate_left
      · (intro w hSw; (try dsimp only at hSw); go_simp; try with_reducible rfl)
      (repeat (first | simp only [Act.put] | simp only [List.setIfInBounds_toArray] | simp only [List.set_cons_succ] | simp only [List.set_cons_zero]))
      refine wpAnyH_take (i := 9) (oi := ⟨some 11, _, _, _, _, _⟩) (v := ?_) rfl (by kernel_rfl) (by kernel_rfl) (by kernel_rfl) (fun _ _ _ h => h) (Or.inl ⟨by kernel_rfl, ?_⟩) (by assumption) ?_
      rotate_left
      · (intro w hSw; (try dsimp only at hSw); go_simp; try with_reducible rfl)
      (repeat (first | simp only [Act.put] | simp only [List.setIfInBounds_toArray] | simp only [List.set_cons_succ] | simp only [List.set_cons_zero]))
      refine wpAnyH_done (by kernel_rfl) ?_ _
      have HPf := P2
      obtain ⟨z0, z1, z2, z3, z4, z5, z6, z7, z8⟩ := gnine_of2 HK2.out
      clear x0 x1 x2 x3 x4 x5 x6 x7 x8
      go_wp2_with ((with_reducible refine (HLk.out _ _ _ _ _ HPf.out).mono ?_); rintro e w5 ⟨rfl, h5⟩)
      exact ⟨⟨k + 1, p, m, t1, t2, rfl, rfl, Hk.out, HPf.out.below h5.out⟩, less_left Hk.out⟩
    · obtain rfl : k = len0 := by have := hd.out.1; omega
      have hkI : ¬ (k : Int) < (k : Int) := by omega
      have HBe := Lib.hid hd.out.2.be
      clear hd hk
      go_wp2_with ((with_reducible refine (HL.out _).mono ?_); rintro e w2 ⟨rfl, k2⟩; have G2 : Hid (Below w.heap.size w w2) := Lib.hid (HBe.out.trans (k2.mono HBe.out.size)); clear k2)
      go_ret
      exact ⟨rfl, G2.out⟩
end Go.Proofs.Ytgbmgdffgmablaa
