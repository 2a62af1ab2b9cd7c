/- own: copy of orders; Meet. (By mkowd.py.) -/
import Derived.Test.YtjfpbphdhgkccaaOwC
namespace Go.Proofs.Ytjfpbphdhgkccaa
open Go.RowKit Go.Lib Go.Sort
set_option linter.unusedVariables false

/-- 'copy' of elements of k cells. -/
theorem run_copyK (w : World) (dT sT ty elem : TypeId) (k g o dLen dCap : Nat) (a : Addr) (sLen sCap : Nat) (cur : Array Value) (t : TypeId) (cs : List Value)
    (hu : Try.prog.underlying dT = some (.slice elem)) (hs : (Try.prog.info? elem).map (·.size) = some k)
    (hg : w.heap[g]? = some (.cells cur t (0, 0))) (m : Nat) (hm : Nat.min sLen dLen = m) (hn : cs.length = m * k)
    (hsrc : ∀ j v, cs[j]? = some v → w.cell? (a.add j) = some v) (hfit : o + cs.length ≤ cur.size) (h1 : ∀ v ∈ cs, v.oneCell' = true) :
    (Builtin.copy_ #[dT, sT] ty #[.slice (some ⟨g, o, none⟩) dLen dCap, .slice (some a) sLen sCap]).run Try.prog w =
      .ok (goInt m) (w.setRow g (cur.toList.take o ++ cs ++ cur.toList.drop (o + cs.length)).toArray) := by
  have hl := run_loadCells_list (P := Try.prog) w a cs hsrc
  have hst := run_storeCells_at Try.prog g o t cs 0 cur w hg (by simpa using hfit) h1
  cases hq : Try.prog.info? elem with
  | none => simp [hq] at hs
  | some i =>
    have hi : i.size = k := by simpa [hq] using hs
    simp [Builtin.copy_, run_underlying hu, Builtin.lenOf, Builtin.firstCells, sizeOf, typeInfo, hq, hi, hm, ← hn, hl, hst]

theorem run_copyK0 (w : World) (dT sT ty elem : TypeId) (k : Nat) (d a : Option Addr) (dLen dCap sLen sCap : Nat)
    (hu : Try.prog.underlying dT = some (.slice elem)) (hs : (Try.prog.info? elem).map (·.size) = some k) (hm : Nat.min sLen dLen = 0) :
    (Builtin.copy_ #[dT, sT] ty #[.slice d dLen dCap, .slice a sLen sCap]).run Try.prog w = .ok (goInt 0) w := by
  cases hq : Try.prog.info? elem with
  | none => simp [hq] at hs
  | some i =>
    have hl : ∀ (x : Addr), (loadCells x 0).run Try.prog w = .ok #[] w := fun x => by simpa using run_loadCells_list (P := Try.prog) w x [] (by simp)
    cases d <;> cases a <;> simp [Builtin.copy_, run_underlying hu, Builtin.lenOf, Builtin.firstCells, sizeOf, typeInfo, hq, hm, storeCells, hl]
theorem size_o : (Try.prog.info? 35).map (·.size) = some 6 := by kernel_rfl
theorem take_get {L : List Od} {m i : Nat} (hi : i < m) : (L.take m)[i]! = L[i]! := by
  rw [List.getElem!_eq_getElem?_getD, List.getElem?_take, if_pos hi, ← List.getElem!_eq_getElem?_getD]
/-- The cells of the first m of a row. -/
theorem ods_cells {w : World} {b off n m : Nat} {L : List Od} (hl : L.length = n) (hm : m ≤ n) (hc : ∀ i, i < n → (L[i]!).at w b (off + i * 6)) :
    ∀ j v, (ol (L.take m))[j]? = some v → w.cell? ((⟨b, off, none⟩ : Addr).add j) = some v := by
  intro j v hj
  have hlt : j < (ol (L.take m)).length := (List.getElem?_eq_some_iff.1 hj).1
  have htl : (L.take m).length = m := by rw [List.length_take]; omega
  rw [ol_len, htl] at hlt
  have e : j = j / 6 * 6 + j % 6 := by omega
  have h6 : j % 6 < 6 := Nat.mod_lt _ (by omega)
  have hd : j / 6 < m := by omega
  rw [e, ol_get (L.take m) (j / 6) (j % 6) (by rw [htl]; exact hd) h6, take_get hd] at hj
  have h := hc (j / 6) (by omega)
  rw [addr_add, e]
  generalize j / 6 = i at *
  generalize j % 6 = r at *
  obtain ⟨x0, x1, x2, x3, x4, x5⟩ := h
  show w.cell? ⟨b, off + (i * 6 + r), none⟩ = some v
  rw [show off + (i * 6 + r) = off + i * 6 + r by omega]
  match r, h6, hj with
  | 0, _, hj => exact x0.trans hj
  | 1, _, hj => exact x1.trans hj
  | 2, _, hj => exact x2.trans hj
  | 3, _, hj => exact x3.trans hj
  | 4, _, hj => exact x4.trans hj
  | 5, _, hj => exact x5.trans hj
/-- A block that holds just these orders. -/
theorem ods_block {w : World} {g m : Nat} {L : List Od} (hl : L.length = m) (hm : m ≤ 1000) (hok : ∀ x ∈ L, Od.ok w x) (hg : w.heap[g]? = some (.cells (ol L).toArray 35 (0, 0))) : Ods w (some ⟨g, 0, none⟩) m L := by
  refine ⟨hl, by omega, hok, .inr ⟨g, 0, rfl, blk_lt hg, fun i hi => ?_⟩⟩
  have cc : ∀ c v, c < 6 → (encO L[i]!)[c]? = some v → w.cell? ⟨g, 0 + i * 6 + c, none⟩ = some v := fun c v hc hv => by
    rw [cell_of_row _ _ _ _ _ _ hg, List.getElem?_toArray, Nat.zero_add, ol_get L i c (by omega) hc, hv]
  exact ⟨cc 0 _ (by omega) rfl, cc 1 _ (by omega) rfl, cc 2 _ (by omega) rfl, cc 3 _ (by omega) rfl, cc 4 _ (by omega) rfl, cc 5 _ (by omega) rfl⟩
theorem ol_one (L : List Od) : ∀ v ∈ ol L, v.oneCell' = true := by
  intro v hv
  obtain ⟨x, _, hx⟩ := List.mem_flatMap.1 hv
  exact enc_one x v hx
/-- The first m of a row copied into a block that was made for them. -/
theorem wpL_copyO {w w0 : World} {ops : Array Oper} {rest : List Oper} {o : Oper} {a : Act} {Q : Exit → Act → World → Prop} (hgd : o.guard = none) (d s : Operand) (dT sT : TypeId)
    (ho : o.op = .call { callee := .builtin .copy, args := #[d, s], argTypes := #[dT, sT] }) (hu : Try.prog.underlying dT = some (.slice 35))
    (g m dc : Nat) (A : Option Addr) (n c : Nat) (L : List Od) (hd : a.eval d = .slice (some ⟨g, 0, none⟩) m dc) (hs : a.eval s = .slice A n c) (hm : m ≤ n) (hm1 : m ≤ 1000)
    (HO : Ods w A n L) (B : Nat) (hB : Below B w0 w) (hBg : B ≤ g) (cur : Array Value) (hg : w.heap[g]? = some (.cells cur 35 (0, 0))) (hc : cur.size = m * 6)
    (h : ∀ w', Hid (Below B w0 w' ∧ Ods w' (some ⟨g, 0, none⟩) m (L.take m)) → wpList Try.prog ops Q rest (a.put o.dst (goInt m)) w') :
    wpList Try.prog ops Q (o :: rest) a w := by
  have htl : (L.take m).length = m := by rw [List.length_take, HO.1]; omega
  have hcs : (ol (L.take m)).length = m * 6 := by rw [ol_len, htl]
  have hok : ∀ x ∈ L.take m, Od.ok w x := fun x hx => HO.2.2.1 x (List.mem_of_mem_take hx)
  by_cases h0 : m = 0
  · subst h0
    have hrun := run_copyK0 w dT sT o.type 35 6 (some ⟨g, 0, none⟩) A 0 dc n c hu size_o (by simp)
    refine wpList_plain hgd fun K hK => ?_
    unfold Oper.wp
    simp [execOp, ho, resolve, invoke, builtin, hd, hs, hrun, Result.andThen]
    exact hK _ _ (h w ⟨hB, htl, by omega, hok, .inl rfl⟩)
  · obtain ⟨b, off, rfl, hb, hcl⟩ : ∃ b off, A = some ⟨b, off, none⟩ ∧ b < w.heap.size ∧ ∀ i, i < n → (L[i]!).at w b (off + i * 6) := by
      rcases HO.2.2.2 with h | h
      · omega
      · exact h
    have hmin : Nat.min n m = m := Nat.min_eq_right hm
    have hrun := run_copyK w dT sT o.type 35 6 g 0 m dc ⟨b, off, none⟩ n c cur 35 (ol (L.take m)) hu size_o hg m hmin hcs (ods_cells HO.1 hm hcl) (by omega) (ol_one _)
    have e : (cur.toList.take 0 ++ ol (L.take m) ++ cur.toList.drop (0 + (ol (L.take m)).length)) = ol (L.take m) := by
      rw [hcs, List.take_zero, List.nil_append, List.drop_eq_nil_of_le (by simp; omega), List.append_nil]
    rw [e] at hrun
    refine wpList_plain hgd fun K hK => ?_
    unfold Oper.wp
    simp [execOp, ho, resolve, invoke, builtin, hd, hs, hrun, Result.andThen]
    refine hK _ _ (h _ ⟨below_setRow hB hBg _, ods_block htl hm1 hok (setRow_heap w g _ _ _ _ hg)⟩)

/-- How many own ones go; whether what comes stops. -/
def mtM (p a : Int) (L : List Od) : Nat := if isPol p = true ∧ frO p a L < L.length ∧ drN p = true then 1 else 0
def mtS (p a : Int) (L : List Od) : Bool := if isPol p then (if frO p a L < L.length then stN p else false) else true
def MeetIs (p a : Int) (L : List Od) (w : World) (e : Ending) (w' : World) : Prop :=
  ∃ R rc D dc, e = .returned (.tuple #[.slice R (runN p a L) rc, .slice D (mtM p a L) dc, .bool (mtS p a L)]) ∧ Hid (Below w.heap.size w w' ∧ Ods w' R (runN p a L) (L.take (runN p a L)) ∧ (mtM p a L = 1 → ∃ b, D = some ⟨b, 0, none⟩ ∧ b < w'.heap.size ∧ w'.cell? ⟨b, 0, none⟩ = some (.int .u64 (L[frO p a L]!).id)))
theorem info_o : (Try.prog.info? 35).map (fun i => (i.zero, i.size, i.bytes)) = some (some (.agg (OC ⟨0, 0, 0, 0, 0, 0⟩)), 6, 48) := by kernel_rfl
theorem info_u64 : (Try.prog.info? 33).map (fun i => (i.zero, i.size, i.bytes)) = some (some (.int .u64 0), 1, 8) := by kernel_rfl
theorem make_o (r : Nat) (hr : r ≤ 1000) : ∃ cs : Array Value, cs.size = r * 6 ∧ ∀ W : World, (Instr.makeSlice 22 (.int .i64 (r : Int)) (.int .i64 (r : Int))).run Try.prog W = .ok (.slice (some ⟨W.heap.size, 0, none⟩) r r) (W.alloc (.cells cs 35)) := by
  obtain ⟨i0, hi0, hz0, hz1, hz2⟩ := info_parts info_o
  refine ⟨madeCells (Value.cells (.agg (OC ⟨0, 0, 0, 0, 0, 0⟩))) (r * i0.size), by rw [size_madeCells, hz1], fun W => ?_⟩
  have := run_make (P := Try.prog) W 22 35 i0 (.agg (OC ⟨0, 0, 0, 0, 0, 0⟩)) Try.underlying22 hi0 hz0 .i64 .i64 (r : Int) (r : Int) (by omega) (Int.le_refl _) (by rw [hz2]; omega) (by omega)
  simpa using this
def wantsRun (p a : Int) (L : List Od) (w : World) (A : Option Addr) (n c : Nat) : Prop := ∀ wr, Below w.heap.size w wr → Calls Try.prog 9 #[.int .i64 p, .int .i64 a, .slice A n c] wr fun e w' => e = .returned (.int .i64 (runN p a L)) ∧ Below wr.heap.size wr w'

set_option maxHeartbeats 4000000 in
set_option maxRecDepth 100000 in
theorem meet_no (p a : Int) (A : Option Addr) (n c : Nat) (L : List Od) (w : World) (H : Ods w A n L) (hp : isPol p = false) :
    Calls Try.prog 8 #[.int .i64 p, .int .i64 a, .slice A n c] w (MeetIs p a L w) := by
  have e1 : runN p a L = 0 := by unfold runN; rw [hp]; rfl
  have e2 : mtM p a L = 0 := by unfold mtM; rw [hp]; simp
  have e3 : mtS p a L = true := by unfold mtS; rw [hp]; rfl
  have HD : Hid (Calls Try.prog 17 #[.int .i64 p] w fun e w' => e = .returned (.tuple #[.agg #[.bool (drN p), .bool (stN p)], .bool (isPol p)]) ∧ Below w.heap.size w w') := Lib.hid (deeds_c p w)
  rw [hp] at HD
  unfold MeetIs
  rw [e1, e2, e3]
  generalize drN p = d at HD
  generalize stN p = s at HD
  clear H e1 e2 e3 hp
  go_enter Try.func8, Try.ntmps8
  go_wp2_with fail
  ((with_reducible refine HD.out.mono ?_); rintro e w1 ⟨rfl, b1⟩)
  go_wp2_with fail
  go_ret3
  exact ⟨none, 0, none, 0, rfl, Lib.hid ⟨b1.alloc b1.size _, ⟨rfl, by omega, fun x hx => absurd hx (by simp), .inl rfl⟩, fun h => absurd h (by omega)⟩⟩

set_option maxHeartbeats 4000000 in
set_option maxRecDepth 100000 in
theorem meet_all (p a : Int) (A : Option Addr) (n c : Nat) (L : List Od) (w : World) (H : Ods w A n L) (hn : n ≤ 1000) (hp : isPol p = true) (hr : frO p a L = n) :
    Calls Try.prog 8 #[.int .i64 p, .int .i64 a, .slice A n c] w (MeetIs p a L w) := by
  have HR : Hid (wantsRun p a L w A n c) := Lib.hid fun wr hb => run_c p a A n c L wr (H.below hb)
  have HT := Lib.hid (And.intro (drops_c p) (stops_c p))
  have e1 : runN p a L = frO p a L := by unfold runN; rw [if_pos hp]
  have HL := H.1
  have e2 : mtM p a L = 0 := by unfold mtM; rw [if_neg (by omega)]
  have e3 : mtS p a L = false := by unfold mtS; rw [hp, if_pos rfl, if_neg (by omega)]
  have HD : Hid (Calls Try.prog 17 #[.int .i64 p] w fun e w' => e = .returned (.tuple #[.agg #[.bool (drN p), .bool (stN p)], .bool (isPol p)]) ∧ Below w.heap.size w w') := Lib.hid (deeds_c p w)
  rw [hp] at HD
  unfold Hid wantsRun at HR
  rw [e1] at HR
  have HO := Lib.hid H
  generalize hdd : drN p = d at HD HT 
  generalize hss : stN p = s at HD HT 
  have HRR := Lib.hid HR
  have HE := Lib.hid (And.intro e1 (And.intro e2 e3))
  clear e1 e2 e3
  generalize hfr : frO p a L = r at HRR hr HE
  have HFR := Lib.hid hfr
  clear hfr
  have hrh := Lib.hid hr
  have hrn : r ≤ n := by omega
  have hrI : (r : Int) ≤ (n : Int) := by omega
  have hr0 : (0 : Int) ≤ (r : Int) := by omega
  clear H HR hp hr
  go_enter Try.func8, Try.ntmps8
  go_wp2_with fail
  ((with_reducible refine HD.out.mono ?_); rintro e w1 ⟨rfl, b1⟩)
  have b1' := b1.alloc b1.size (.cells #[.bool d, .bool s] 43)
  clear HD b1
  go_wp2_with fail
  ((with_reducible refine (HRR.out _ b1').mono ?_); rintro e w2 ⟨rfl, b2⟩)
  have b3 := b1'.trans (b2.mono b1'.size)
  clear HRR b1' b2
  obtain ⟨cs, hcs, hmk⟩ := make_o r (by omega)
  have h1 : (w2.alloc (.cells cs 35)).heap[w2.heap.size]? = some (.cells cs 35 (0, 0)) := heap_alloc_new _ _
  have b5 := b3.alloc b3.size (.cells cs 35)
  have HC := Lib.hid (And.intro (HO.out.below b5) (And.intro b5 (And.intro h1 hcs)))
  have hs2 := b3.size
  clear b3 b5 h1 hcs
  go_wp2_with (refine wpL_copyO rfl _ _ 22 22 rfl Try.underlying22 w2.heap.size r r A n c L rfl rfl hrn (by omega) HC.out.1 w.heap.size HC.out.2.1 hs2 cs HC.out.2.2.1 HC.out.2.2.2 ?_)
  intro w5 h5
  clear HC
  obtain rfl : n = r := hrh.out.symm
  have enn : ((n : Int) == (n : Int)) = true := by simp
  go_wp2_with fail
  go_ret3
  show MeetIs p a L w _ _
  unfold MeetIs
  rw [HE.out.1, HE.out.2.1, HE.out.2.2]
  exact ⟨_, _, none, 0, rfl, Lib.hid ⟨h5.out.1, h5.out.2, fun h => absurd h (by omega)⟩⟩

set_option maxHeartbeats 4000000 in
set_option maxRecDepth 100000 in
theorem meet_stay (p a : Int) (A : Option Addr) (n c : Nat) (L : List Od) (w : World) (H : Ods w A n L) (hn : n ≤ 1000) (hp : isPol p = true) (hr : frO p a L < n) (hdr : drN p = false) :
    Calls Try.prog 8 #[.int .i64 p, .int .i64 a, .slice A n c] w (MeetIs p a L w) := by
  have HR : Hid (wantsRun p a L w A n c) := Lib.hid fun wr hb => run_c p a A n c L wr (H.below hb)
  have HT := Lib.hid (And.intro (drops_c p) (stops_c p))
  have e1 : runN p a L = frO p a L := by unfold runN; rw [if_pos hp]
  have HL := H.1
  have e2 : mtM p a L = 0 := by unfold mtM; rw [if_neg (by rw [hdr]; simp)]
  have e3 : mtS p a L = stN p := by unfold mtS; rw [hp, if_pos rfl, if_pos (by omega)]
  have HD : Hid (Calls Try.prog 17 #[.int .i64 p] w fun e w' => e = .returned (.tuple #[.agg #[.bool (drN p), .bool (stN p)], .bool (isPol p)]) ∧ Below w.heap.size w w') := Lib.hid (deeds_c p w)
  rw [hp] at HD
  unfold Hid wantsRun at HR
  rw [e1] at HR
  have HO := Lib.hid H
  generalize hdd : drN p = d at HD HT 
  generalize hss : stN p = s at HD HT 
  have HRR := Lib.hid HR
  have HE := Lib.hid (And.intro e1 (And.intro e2 e3))
  clear e1 e2 e3
  generalize hfr : frO p a L = r at HRR hr HE
  have HFR := Lib.hid hfr
  clear hfr
  have hrh := Lib.hid hr
  have hrn : r ≤ n := by omega
  have hrI : (r : Int) ≤ (n : Int) := by omega
  have hr0 : (0 : Int) ≤ (r : Int) := by omega
  clear H HR hp hr
  go_enter Try.func8, Try.ntmps8
  go_wp2_with fail
  ((with_reducible refine HD.out.mono ?_); rintro e w1 ⟨rfl, b1⟩)
  have b1' := b1.alloc b1.size (.cells #[.bool d, .bool s] 43)
  clear HD b1
  go_wp2_with fail
  ((with_reducible refine (HRR.out _ b1').mono ?_); rintro e w2 ⟨rfl, b2⟩)
  have b3 := b1'.trans (b2.mono b1'.size)
  clear HRR b1' b2
  obtain ⟨cs, hcs, hmk⟩ := make_o r (by omega)
  have h1 : (w2.alloc (.cells cs 35)).heap[w2.heap.size]? = some (.cells cs 35 (0, 0)) := heap_alloc_new _ _
  have b5 := b3.alloc b3.size (.cells cs 35)
  have HC := Lib.hid (And.intro (HO.out.below b5) (And.intro b5 (And.intro h1 hcs)))
  have hs2 := b3.size
  clear b3 b5 h1 hcs
  go_wp2_with (refine wpL_copyO rfl _ _ 22 22 rfl Try.underlying22 w2.heap.size r r A n c L rfl rfl hrn (by omega) HC.out.1 w.heap.size HC.out.2.1 hs2 cs HC.out.2.2.1 HC.out.2.2.2 ?_)
  intro w5 h5
  clear HC
  obtain rfl : d = false := hdd.symm.trans hdr
  have hlt := hrh.out
  have enn : ((r : Int) == (n : Int)) = false := by simp; omega
  go_wp2_with fail
  ((with_reducible refine (HT.out.1 _).mono ?_); rintro e w6 ⟨rfl, b6⟩)
  have b7 := h5.out.1.trans (b6.mono h5.out.1.size)
  have h7 := h5.out.2.below b6
  go_wp2_with fail
  ((with_reducible refine (HT.out.2 _).mono ?_); rintro e w8 ⟨rfl, b8⟩)
  have b9 := b7.trans (b8.mono b7.size)
  have h9 := h7.below b8
  go_wp2_with fail
  go_ret3
  show MeetIs p a L w _ _
  unfold MeetIs
  rw [HE.out.1, HE.out.2.1, HE.out.2.2, hss]
  exact ⟨_, _, none, 0, rfl, Lib.hid ⟨b9, h9, fun h => absurd h (by omega)⟩⟩

set_option maxHeartbeats 4000000 in
set_option maxRecDepth 100000 in
theorem meet_go (p a : Int) (A : Option Addr) (n c : Nat) (L : List Od) (w : World) (H : Ods w A n L) (hn : n ≤ 1000) (hp : isPol p = true) (hr : frO p a L < n) (hdr : drN p = true) :
    Calls Try.prog 8 #[.int .i64 p, .int .i64 a, .slice A n c] w (MeetIs p a L w) := by
  have HR : Hid (wantsRun p a L w A n c) := Lib.hid fun wr hb => run_c p a A n c L wr (H.below hb)
  have HT := Lib.hid (And.intro (drops_c p) (stops_c p))
  have e1 : runN p a L = frO p a L := by unfold runN; rw [if_pos hp]
  have HL := H.1
  have e2 : mtM p a L = 1 := by unfold mtM; rw [if_pos ⟨hp, by omega, hdr⟩]
  have e3 : mtS p a L = stN p := by unfold mtS; rw [hp, if_pos rfl, if_pos (by omega)]
  have HD : Hid (Calls Try.prog 17 #[.int .i64 p] w fun e w' => e = .returned (.tuple #[.agg #[.bool (drN p), .bool (stN p)], .bool (isPol p)]) ∧ Below w.heap.size w w') := Lib.hid (deeds_c p w)
  rw [hp] at HD
  unfold Hid wantsRun at HR
  rw [e1] at HR
  have HO := Lib.hid H
  generalize hdd : drN p = d at HD HT 
  generalize hss : stN p = s at HD HT 
  have HRR := Lib.hid HR
  have HE := Lib.hid (And.intro e1 (And.intro e2 e3))
  clear e1 e2 e3
  generalize hfr : frO p a L = r at HRR hr HE
  have HFR := Lib.hid hfr
  clear hfr
  have hrh := Lib.hid hr
  have hrn : r ≤ n := by omega
  have hrI : (r : Int) ≤ (n : Int) := by omega
  have hr0 : (0 : Int) ≤ (r : Int) := by omega
  clear H HR hp hr
  go_enter Try.func8, Try.ntmps8
  go_wp2_with fail
  ((with_reducible refine HD.out.mono ?_); rintro e w1 ⟨rfl, b1⟩)
  have b1' := b1.alloc b1.size (.cells #[.bool d, .bool s] 43)
  clear HD b1
  go_wp2_with fail
  ((with_reducible refine (HRR.out _ b1').mono ?_); rintro e w2 ⟨rfl, b2⟩)
  have b3 := b1'.trans (b2.mono b1'.size)
  clear HRR b1' b2
  obtain ⟨cs, hcs, hmk⟩ := make_o r (by omega)
  have h1 : (w2.alloc (.cells cs 35)).heap[w2.heap.size]? = some (.cells cs 35 (0, 0)) := heap_alloc_new _ _
  have b5 := b3.alloc b3.size (.cells cs 35)
  have HC := Lib.hid (And.intro (HO.out.below b5) (And.intro b5 (And.intro h1 hcs)))
  have hs2 := b3.size
  clear b3 b5 h1 hcs
  go_wp2_with (refine wpL_copyO rfl _ _ 22 22 rfl Try.underlying22 w2.heap.size r r A n c L rfl rfl hrn (by omega) HC.out.1 w.heap.size HC.out.2.1 hs2 cs HC.out.2.2.1 HC.out.2.2.2 ?_)
  intro w5 h5
  clear HC
  obtain rfl : d = true := hdd.symm.trans hdr
  have hlt := hrh.out
  have hltI : (r : Int) < (n : Int) := by omega
  have enn : ((r : Int) == (n : Int)) = false := by simp; omega
  obtain ⟨iu, hu0, huz0, huz1, huz2⟩ := info_parts info_u64
  go_wp2_with fail
  ((with_reducible refine (HT.out.1 _).mono ?_); rintro e w6 ⟨rfl, b6⟩)
  have b7 := h5.out.1.trans (b6.mono h5.out.1.size)
  have h7 := Lib.hid (h5.out.2.below b6)
  have HO7 := HO.out.below b7
  obtain ⟨b, off, rfl, hb, hc⟩ : ∃ b off, A = some ⟨b, off, none⟩ ∧ b < w6.heap.size ∧ ∀ i, i < n → (L[i]!).at w6 b (off + i * 6) := by
    rcases HO7.2.2.2 with h | h
    · omega
    · exact h
  have x0 := (hc r hlt).1
  have HX := Lib.hid (show ∃ z, z = (L[r]!).id from ⟨_, rfl⟩)
  clear hc HO7 b6 h5
  obtain ⟨z, hz⟩ : ∃ z, z = (L[r]!).id := ⟨_, rfl⟩
  rw [← hz] at x0
  have HZ := Lib.hid hz
  clear hz HX
  have hsz := b7.size
  go_wp2_with (at_builtin; refine wpList_append_own _ rfl _ _ 27 rfl w6.heap.size 33 iu (.int .u64 0) 1 8 Try.underlying27 hu0 huz0 huz1 huz2 rfl (by decide) _ _ _ rfl (World.ownsRow_nil _ _ _ _) ⟨w6.heap.size, 0, none⟩ 1 1 [.int .u64 z] rfl rfl ?c1 ?c2 ?c3 ?c4 ?c5 ?_)
  case c1 => intro j u hu; match j, hu with
    | 0, hu => rw [addr_add, cell_of_row _ _ _ _ _ _ (heap_alloc_new w6 _)]; simpa using hu
  case c2 => intro u hu; obtain rfl := List.mem_singleton.1 hu; rfl
  case c3 => unfold maxLen; omega
  case c4 => omega
  case c5 => simp
  intro v1 w7 hown1 hg1 _
  have B8 : Hid (Below w.heap.size w w7 ∧ Ods w7 (some ⟨w2.heap.size, 0, none⟩) r (L.take r) ∧ ∃ b c, v1 = .slice (some ⟨b, 0, none⟩) 1 c ∧ b < w7.heap.size ∧ w7.cell? ⟨b, 0, none⟩ = some (.int .u64 z)) := by
    have hB : Below w6.heap.size w6 w7 := Below.grown ((Below.refl _ _).alloc (Nat.le_refl _) _) hg1 (by simp) (fun k hk => by cases hk)
    refine ⟨b7.trans (hB.mono b7.size), h7.out.below hB, ?_⟩
    obtain ⟨_, h2⟩ := hown1
    rcases h2 with ⟨hv, h0⟩ | ⟨k, cap, cur, hv, _, hk, _, _, hs, ht⟩
    · omega
    · refine ⟨k, cap, hv, blk_lt hk, ?_⟩
      rw [cell_of_row _ _ _ _ _ _ hk, ← Array.getElem?_toList]
      have : (cur.toList.take (1 * 1))[0]? = some (.int .u64 z) := by rw [ht]; rfl
      simpa [List.getElem?_take] using this
  obtain ⟨b8, h8, kb, kc, rfl, hkb, hkc⟩ := B8.out
  clear B8
  have h8' := Lib.hid h8
  clear hown1 hg1 h7 b7 h8
  go_wp2_with fail
  ((with_reducible refine (HT.out.2 _).mono ?_); rintro e w8 ⟨rfl, b9⟩)
  have b10 := b8.trans (b9.mono b8.size)
  have h9 := h8'.out.below b9
  have hc9 := (b9.cell (p := ⟨kb, 0, none⟩) hkb).trans hkc
  have hk9 := Nat.lt_of_lt_of_le hkb b9.size
  clear h8' hkc hkb b8 b9
  go_wp2_with fail
  go_ret3
  show MeetIs p a L w _ _
  unfold MeetIs
  rw [HE.out.1, HE.out.2.1, HE.out.2.2, hss, HFR.out]
  exact ⟨_, _, _, _, rfl, Lib.hid ⟨b10, h9, fun _ => ⟨kb, rfl, hk9, by rw [hc9, HZ.out]⟩⟩⟩
theorem meet_c (p a : Int) (A : Option Addr) (n c : Nat) (L : List Od) (w : World) (H : Ods w A n L) (hn : n ≤ 1000) :
    Calls Try.prog 8 #[.int .i64 p, .int .i64 a, .slice A n c] w (MeetIs p a L w) := by
  cases hp : isPol p with
  | false => exact meet_no p a A n c L w H hp
  | true =>
    by_cases hr : frO p a L = n
    · exact meet_all p a A n c L w H hn hp hr
    · have := frO_le p a L
      rw [H.1] at this
      cases hd : drN p with
      | false => exact meet_stay p a A n c L w H hn hp (by omega) hd
      | true => exact meet_go p a A n c L w H hn hp (by omega) hd
end Go.Proofs.Ytjfpbphdhgkccaa
