/- order: what is held, whether two would trade; the reference's answers. (By mkork.py.) -/
import Derived.Test.YtgbmgdffgmablaaOrJ
namespace Go.Proofs.Ytgbmgdffgmablaa
open Go.RowKit Go.Sort Go.Lib Go.Shelf

section
variable {ops : Array Oper} {rest : List Oper} {o : Oper} {a : Act} {w : World} {Q : Exit → Act → World → Prop}
theorem loadC (hgd : Region.wanted o (yielded ops a.tmps) = true) (x : Operand) (ho : o.op = .load 24 x) (g : Nat) (hx : a.eval x = .pointer (some ⟨g, 0, none⟩)) (z : Od) (t : TypeId)
    (hg : w.heap[g]? = some (.cells (OC z) t (0, 0))) (h : wpList Try.prog ops Q rest (a.put o.dst (.agg (OC z))) w) : wpList Try.prog ops Q (o :: rest) a w := loadO hgd x ho g hx z t hg h
end
theorem ahead_l (x y : Od) (w : World) : Calls Try.prog 51 #[.agg (OC x), .agg (OC y)] w fun e w' => e = .returned (.bool (ahdO x y)) ∧ Gw w w' := ahead_o x y w
set_option maxHeartbeats 4000000 in
set_option maxRecDepth 100000 in
theorem rBetter_c (s a b : Int) (w : World) : Calls Try.prog 67 #[.int .i64 s, .int .i64 a, .int .i64 b] w fun e w' => e = .returned (.bool (betN s a b)) ∧ w = w' := by
  by_cases h1 : s = 1
  · have e1 : (s == 1) = true := by simp [h1]
    have e2 : (s == 2) = false := by simp [h1]
    by_cases hd : b < a
    · have e : betN s a b = true := by unfold betN; simp [h1, hd]
      have g := decide_eq_true hd
      rw [e]
      clear h1 e
      go_enter Try.func67, Try.ntmps67
      go_wp2_with fail
      go_ret
      exact ⟨rfl, rfl⟩
    · have e : betN s a b = false := by unfold betN; simp [h1]; omega
      have g := decide_eq_false hd
      rw [e]
      clear h1 e
      go_enter Try.func67, Try.ntmps67
      go_wp2_with fail
      go_ret
      exact ⟨rfl, rfl⟩
  have e1 : (s == 1) = false := by simp [h1]
  by_cases h2 : s = 2
  · have e2 : (s == 2) = true := by simp [h2]
    by_cases hd : a < b
    · have e : betN s a b = true := by unfold betN; simp [h2, hd]
      have g := decide_eq_true hd
      rw [e]
      clear h1 h2 e
      go_enter Try.func67, Try.ntmps67
      go_wp2_with fail
      go_ret
      exact ⟨rfl, rfl⟩
    · have e : betN s a b = false := by unfold betN; simp [h2]; omega
      have g := decide_eq_false hd
      rw [e]
      clear h1 h2 e
      go_enter Try.func67, Try.ntmps67
      go_wp2_with fail
      go_ret
      exact ⟨rfl, rfl⟩
  have e2 : (s == 2) = false := by simp [h2]
  have e : betN s a b = false := by unfold betN; simp [h1, h2]
  rw [e]
  clear h1 h2 e
  go_enter Try.func67, Try.ntmps67
  go_wp2_with fail
  go_ret
  exact ⟨rfl, rfl⟩
set_option maxHeartbeats 4000000 in
set_option maxRecDepth 100000 in
theorem ra_unlike (x y : Od) (w : World) (h : x.side ≠ y.side) : Calls Try.prog 64 #[.agg #[.int .u64 x.id, .int .i64 x.acc, .int .i64 x.side, .int .i64 x.price, .int .i64 x.qty, .int .u64 x.seq], .agg #[.int .u64 y.id, .int .i64 y.acc, .int .i64 y.side, .int .i64 y.price, .int .i64 y.qty, .int .u64 y.seq]] w fun e w' => e = .returned (.bool (false)) ∧ Gw w w' := by
  have e1 : (x.side != y.side) = true := by simp [h]
  clear h
  go_enter Try.func64, Try.ntmps64
  go_wp2_with fail
  go_ret
  exact ⟨rfl, ((Gw.refl w).alloc _).alloc _⟩
set_option maxHeartbeats 4000000 in
set_option maxRecDepth 100000 in
theorem ra_low (x y : Od) (w : World) (h : x.side = y.side) (h2 : x.side < 1) : Calls Try.prog 64 #[.agg #[.int .u64 x.id, .int .i64 x.acc, .int .i64 x.side, .int .i64 x.price, .int .i64 x.qty, .int .u64 x.seq], .agg #[.int .u64 y.id, .int .i64 y.acc, .int .i64 y.side, .int .i64 y.price, .int .i64 y.qty, .int .u64 y.seq]] w fun e w' => e = .returned (.bool (false)) ∧ Gw w w' := by
  have e1 : (x.side != y.side) = false := by simp [h]
  clear h
  go_enter Try.func64, Try.ntmps64
  go_wp2_with fail
  go_ret
  exact ⟨rfl, ((Gw.refl w).alloc _).alloc _⟩
set_option maxHeartbeats 4000000 in
set_option maxRecDepth 100000 in
theorem ra_high (x y : Od) (w : World) (h : x.side = y.side) (h2 : 2 < x.side) : Calls Try.prog 64 #[.agg #[.int .u64 x.id, .int .i64 x.acc, .int .i64 x.side, .int .i64 x.price, .int .i64 x.qty, .int .u64 x.seq], .agg #[.int .u64 y.id, .int .i64 y.acc, .int .i64 y.side, .int .i64 y.price, .int .i64 y.qty, .int .u64 y.seq]] w fun e w' => e = .returned (.bool (false)) ∧ Gw w w' := by
  have e1 : (x.side != y.side) = false := by simp [h]
  have e2 : ¬ x.side < 1 := by omega
  clear h
  go_enter Try.func64, Try.ntmps64
  go_wp2_with fail
  go_ret
  exact ⟨rfl, ((Gw.refl w).alloc _).alloc _⟩
set_option maxHeartbeats 4000000 in
set_option maxRecDepth 100000 in
theorem ra_price (x y : Od) (w : World) (h : x.side = y.side) (h1 : 1 ≤ x.side) (h2 : x.side ≤ 2) (h3 : x.price ≠ y.price) : Calls Try.prog 64 #[.agg #[.int .u64 x.id, .int .i64 x.acc, .int .i64 x.side, .int .i64 x.price, .int .i64 x.qty, .int .u64 x.seq], .agg #[.int .u64 y.id, .int .i64 y.acc, .int .i64 y.side, .int .i64 y.price, .int .i64 y.qty, .int .u64 y.seq]] w fun e w' => e = .returned (.bool (betN x.side x.price y.price)) ∧ Gw w w' := by
  have e1 : (x.side != y.side) = false := by simp [h]
  have e2 : ¬ x.side < 1 := by omega
  have e3 : ¬ 2 < x.side := by omega
  have e4 : (x.price != y.price) = true := by simp [h3]
  have HB := Lib.hid (rBetter_c x.side x.price y.price)
  generalize betN x.side x.price y.price = r at *
  clear h h1 h2 h3
  go_enter Try.func64, Try.ntmps64
  go_wp2_with ((with_reducible refine (HB.out _).mono ?_); rintro e w' ⟨rfl, rfl⟩)
  go_ret
  exact ⟨rfl, ((Gw.refl w).alloc _).alloc _⟩
set_option maxHeartbeats 4000000 in
set_option maxRecDepth 100000 in
theorem ra_seq (x y : Od) (w : World) (h : x.side = y.side) (h1 : 1 ≤ x.side) (h2 : x.side ≤ 2) (h3 : x.price = y.price) (h4 : x.seq ≠ y.seq) : Calls Try.prog 64 #[.agg #[.int .u64 x.id, .int .i64 x.acc, .int .i64 x.side, .int .i64 x.price, .int .i64 x.qty, .int .u64 x.seq], .agg #[.int .u64 y.id, .int .i64 y.acc, .int .i64 y.side, .int .i64 y.price, .int .i64 y.qty, .int .u64 y.seq]] w fun e w' => e = .returned (.bool (decide (x.seq < y.seq))) ∧ Gw w w' := by
  have e1 : (x.side != y.side) = false := by simp [h]
  have e2 : ¬ x.side < 1 := by omega
  have e3 : ¬ 2 < x.side := by omega
  have e4 : (x.price != y.price) = false := by simp [h3]
  have e5 : (x.seq != y.seq) = true := by simp [h4]
  clear h h1 h2 h3 h4
  go_enter Try.func64, Try.ntmps64
  go_wp2_with fail
  go_ret
  exact ⟨rfl, ((Gw.refl w).alloc _).alloc _⟩
set_option maxHeartbeats 4000000 in
set_option maxRecDepth 100000 in
theorem ra_id (x y : Od) (w : World) (h : x.side = y.side) (h1 : 1 ≤ x.side) (h2 : x.side ≤ 2) (h3 : x.price = y.price) (h4 : x.seq = y.seq) : Calls Try.prog 64 #[.agg #[.int .u64 x.id, .int .i64 x.acc, .int .i64 x.side, .int .i64 x.price, .int .i64 x.qty, .int .u64 x.seq], .agg #[.int .u64 y.id, .int .i64 y.acc, .int .i64 y.side, .int .i64 y.price, .int .i64 y.qty, .int .u64 y.seq]] w fun e w' => e = .returned (.bool (decide (x.id < y.id))) ∧ Gw w w' := by
  have e1 : (x.side != y.side) = false := by simp [h]
  have e2 : ¬ x.side < 1 := by omega
  have e3 : ¬ 2 < x.side := by omega
  have e4 : (x.price != y.price) = false := by simp [h3]
  have e5 : (x.seq != y.seq) = false := by simp [h4]
  clear h h1 h2 h3 h4
  go_enter Try.func64, Try.ntmps64
  go_wp2_with fail
  go_ret
  exact ⟨rfl, ((Gw.refl w).alloc _).alloc _⟩
theorem cmp_lt (q i q' i' : Int) : decide ((if cmpN q q' = 0 then cmpN i i' else cmpN q q') < 0) = if q ≠ q' then decide (q < q') else decide (i < i') := by
  by_cases h : q = q'
  · rw [if_pos ((cmpN_0 q q').2 h), if_neg (fun k => k h)]
    by_cases k : i < i'
    · rw [decide_eq_true k]; exact decide_eq_true ((cmpN_lt i i').2 k)
    · rw [decide_eq_false k]; exact decide_eq_false (fun h => k ((cmpN_lt i i').1 h))
  · rw [if_pos h, if_neg (fun k => h ((cmpN_0 q q').1 k))]
    by_cases k : q < q'
    · rw [decide_eq_true k]; exact decide_eq_true ((cmpN_lt q q').2 k)
    · rw [decide_eq_false k]; exact decide_eq_false (fun h => k ((cmpN_lt q q').1 h))
theorem rAhead_c (x y : Od) (w : World) : Calls Try.prog 64 #[.agg #[.int .u64 x.id, .int .i64 x.acc, .int .i64 x.side, .int .i64 x.price, .int .i64 x.qty, .int .u64 x.seq], .agg #[.int .u64 y.id, .int .i64 y.acc, .int .i64 y.side, .int .i64 y.price, .int .i64 y.qty, .int .u64 y.seq]] w fun e w' => e = .returned (.bool (ahdO x y)) ∧ Gw w w' := by
  unfold ahdO ahdN
  by_cases h : x.side = y.side
  rotate_left
  · rw [if_pos (.inl h)]; exact ra_unlike x y w h
  by_cases h1 : x.side < 1
  · rw [if_pos (.inr (by omega))]; exact ra_low x y w h h1
  by_cases h2 : 2 < x.side
  · rw [if_pos (.inr (by omega))]; exact ra_high x y w h h2
  rw [if_neg (by omega)]
  by_cases h3 : x.price = y.price
  rotate_left
  · rw [if_pos h3]; exact ra_price x y w h (by omega) (by omega) h3
  rw [if_neg (by simp [h3]), cmp_lt]
  by_cases h4 : x.seq = y.seq
  rotate_left
  · rw [if_pos h4]; exact ra_seq x y w h (by omega) (by omega) h3 h4
  rw [if_neg (by simp [h4])]
  exact ra_id x y w h (by omega) (by omega) h3 h4
set_option maxHeartbeats 4000000 in
set_option maxRecDepth 100000 in
theorem rg_w0_1 (x : Od) (w : World) (h0 : ¬ (0 ≤ x.acc)) : Calls Try.prog 38 #[.agg #[.int .u64 x.id, .int .i64 x.acc, .int .i64 x.side, .int .i64 x.price, .int .i64 x.qty, .int .u64 x.seq]] w fun e w' => e = .returned (.bool false) ∧ Gw w w' := by
  have g : decide (0 ≤ x.acc) = false := decide_eq_false h0
  go_enter Try.func38, Try.ntmps38
  go_wp2_with fail
  go_ret
  exact ⟨rfl, (Gw.refl w).alloc _⟩
set_option maxHeartbeats 4000000 in
set_option maxRecDepth 100000 in
theorem rg_w1_1 (x : Od) (w : World) (h0 : (0 ≤ x.acc)) (h1 : ¬ (x.acc < 8)) : Calls Try.prog 38 #[.agg #[.int .u64 x.id, .int .i64 x.acc, .int .i64 x.side, .int .i64 x.price, .int .i64 x.qty, .int .u64 x.seq]] w fun e w' => e = .returned (.bool false) ∧ Gw w w' := by
  have g : decide (x.acc < 8) = false := decide_eq_false h1
  go_enter Try.func38, Try.ntmps38
  go_wp2_with fail
  go_ret
  exact ⟨rfl, (Gw.refl w).alloc _⟩
set_option maxHeartbeats 4000000 in
set_option maxRecDepth 100000 in
theorem rg_w2_1 (x : Od) (w : World) (h0 : (0 ≤ x.acc)) (h1 : (x.acc < 8)) (h2 : (x.side == 1) = false) (h2' : (x.side == 2) = false) : Calls Try.prog 38 #[.agg #[.int .u64 x.id, .int .i64 x.acc, .int .i64 x.side, .int .i64 x.price, .int .i64 x.qty, .int .u64 x.seq]] w fun e w' => e = .returned (.bool false) ∧ Gw w w' := by
  go_enter Try.func38, Try.ntmps38
  go_wp2_with fail
  go_ret
  exact ⟨rfl, (Gw.refl w).alloc _⟩
set_option maxHeartbeats 4000000 in
set_option maxRecDepth 100000 in
theorem rg_w3_1 (x : Od) (w : World) (h0 : (0 ≤ x.acc)) (h1 : (x.acc < 8)) (h2 : (x.side == 1) = true) (h3 : ¬ (1 ≤ x.price)) : Calls Try.prog 38 #[.agg #[.int .u64 x.id, .int .i64 x.acc, .int .i64 x.side, .int .i64 x.price, .int .i64 x.qty, .int .u64 x.seq]] w fun e w' => e = .returned (.bool false) ∧ Gw w w' := by
  have g : decide (1 ≤ x.price) = false := decide_eq_false h3
  go_enter Try.func38, Try.ntmps38
  go_wp2_with fail
  go_ret
  exact ⟨rfl, (Gw.refl w).alloc _⟩
set_option maxHeartbeats 4000000 in
set_option maxRecDepth 100000 in
theorem rg_w3_2 (x : Od) (w : World) (h0 : (0 ≤ x.acc)) (h1 : (x.acc < 8)) (h2 : (x.side == 1) = false) (h2' : (x.side == 2) = true) (h3 : ¬ (1 ≤ x.price)) : Calls Try.prog 38 #[.agg #[.int .u64 x.id, .int .i64 x.acc, .int .i64 x.side, .int .i64 x.price, .int .i64 x.qty, .int .u64 x.seq]] w fun e w' => e = .returned (.bool false) ∧ Gw w w' := by
  have g : decide (1 ≤ x.price) = false := decide_eq_false h3
  go_enter Try.func38, Try.ntmps38
  go_wp2_with fail
  go_ret
  exact ⟨rfl, (Gw.refl w).alloc _⟩
set_option maxHeartbeats 4000000 in
set_option maxRecDepth 100000 in
theorem rg_w4_1 (x : Od) (w : World) (h0 : (0 ≤ x.acc)) (h1 : (x.acc < 8)) (h2 : (x.side == 1) = true) (h3 : (1 ≤ x.price)) (h4 : ¬ (x.price ≤ 1099511627776)) : Calls Try.prog 38 #[.agg #[.int .u64 x.id, .int .i64 x.acc, .int .i64 x.side, .int .i64 x.price, .int .i64 x.qty, .int .u64 x.seq]] w fun e w' => e = .returned (.bool false) ∧ Gw w w' := by
  have g : decide (x.price ≤ 1099511627776) = false := decide_eq_false h4
  go_enter Try.func38, Try.ntmps38
  go_wp2_with fail
  go_ret
  exact ⟨rfl, (Gw.refl w).alloc _⟩
set_option maxHeartbeats 4000000 in
set_option maxRecDepth 100000 in
theorem rg_w4_2 (x : Od) (w : World) (h0 : (0 ≤ x.acc)) (h1 : (x.acc < 8)) (h2 : (x.side == 1) = false) (h2' : (x.side == 2) = true) (h3 : (1 ≤ x.price)) (h4 : ¬ (x.price ≤ 1099511627776)) : Calls Try.prog 38 #[.agg #[.int .u64 x.id, .int .i64 x.acc, .int .i64 x.side, .int .i64 x.price, .int .i64 x.qty, .int .u64 x.seq]] w fun e w' => e = .returned (.bool false) ∧ Gw w w' := by
  have g : decide (x.price ≤ 1099511627776) = false := decide_eq_false h4
  go_enter Try.func38, Try.ntmps38
  go_wp2_with fail
  go_ret
  exact ⟨rfl, (Gw.refl w).alloc _⟩
set_option maxHeartbeats 4000000 in
set_option maxRecDepth 100000 in
theorem rg_w5_1 (x : Od) (w : World) (h0 : (0 ≤ x.acc)) (h1 : (x.acc < 8)) (h2 : (x.side == 1) = true) (h3 : (1 ≤ x.price)) (h4 : (x.price ≤ 1099511627776)) (h5 : ¬ (1 ≤ x.qty)) : Calls Try.prog 38 #[.agg #[.int .u64 x.id, .int .i64 x.acc, .int .i64 x.side, .int .i64 x.price, .int .i64 x.qty, .int .u64 x.seq]] w fun e w' => e = .returned (.bool false) ∧ Gw w w' := by
  have g : decide (1 ≤ x.qty) = false := decide_eq_false h5
  go_enter Try.func38, Try.ntmps38
  go_wp2_with fail
  go_ret
  exact ⟨rfl, (Gw.refl w).alloc _⟩
set_option maxHeartbeats 4000000 in
set_option maxRecDepth 100000 in
theorem rg_w5_2 (x : Od) (w : World) (h0 : (0 ≤ x.acc)) (h1 : (x.acc < 8)) (h2 : (x.side == 1) = false) (h2' : (x.side == 2) = true) (h3 : (1 ≤ x.price)) (h4 : (x.price ≤ 1099511627776)) (h5 : ¬ (1 ≤ x.qty)) : Calls Try.prog 38 #[.agg #[.int .u64 x.id, .int .i64 x.acc, .int .i64 x.side, .int .i64 x.price, .int .i64 x.qty, .int .u64 x.seq]] w fun e w' => e = .returned (.bool false) ∧ Gw w w' := by
  have g : decide (1 ≤ x.qty) = false := decide_eq_false h5
  go_enter Try.func38, Try.ntmps38
  go_wp2_with fail
  go_ret
  exact ⟨rfl, (Gw.refl w).alloc _⟩
set_option maxHeartbeats 4000000 in
set_option maxRecDepth 100000 in
theorem rg_w6_1 (x : Od) (w : World) (h0 : (0 ≤ x.acc)) (h1 : (x.acc < 8)) (h2 : (x.side == 1) = true) (h3 : (1 ≤ x.price)) (h4 : (x.price ≤ 1099511627776)) (h5 : (1 ≤ x.qty)) (h6 : ¬ (x.qty ≤ 1099511627776)) : Calls Try.prog 38 #[.agg #[.int .u64 x.id, .int .i64 x.acc, .int .i64 x.side, .int .i64 x.price, .int .i64 x.qty, .int .u64 x.seq]] w fun e w' => e = .returned (.bool false) ∧ Gw w w' := by
  have g : decide (x.qty ≤ 1099511627776) = false := decide_eq_false h6
  go_enter Try.func38, Try.ntmps38
  go_wp2_with fail
  go_ret
  exact ⟨rfl, (Gw.refl w).alloc _⟩
set_option maxHeartbeats 4000000 in
set_option maxRecDepth 100000 in
theorem rg_w6_2 (x : Od) (w : World) (h0 : (0 ≤ x.acc)) (h1 : (x.acc < 8)) (h2 : (x.side == 1) = false) (h2' : (x.side == 2) = true) (h3 : (1 ≤ x.price)) (h4 : (x.price ≤ 1099511627776)) (h5 : (1 ≤ x.qty)) (h6 : ¬ (x.qty ≤ 1099511627776)) : Calls Try.prog 38 #[.agg #[.int .u64 x.id, .int .i64 x.acc, .int .i64 x.side, .int .i64 x.price, .int .i64 x.qty, .int .u64 x.seq]] w fun e w' => e = .returned (.bool false) ∧ Gw w w' := by
  have g : decide (x.qty ≤ 1099511627776) = false := decide_eq_false h6
  go_enter Try.func38, Try.ntmps38
  go_wp2_with fail
  go_ret
  exact ⟨rfl, (Gw.refl w).alloc _⟩
set_option maxHeartbeats 4000000 in
set_option maxRecDepth 100000 in
theorem rg_w7_1 (x : Od) (w : World) (h0 : (0 ≤ x.acc)) (h1 : (x.acc < 8)) (h2 : (x.side == 1) = true) (h3 : (1 ≤ x.price)) (h4 : (x.price ≤ 1099511627776)) (h5 : (1 ≤ x.qty)) (h6 : (x.qty ≤ 1099511627776)) : Calls Try.prog 38 #[.agg #[.int .u64 x.id, .int .i64 x.acc, .int .i64 x.side, .int .i64 x.price, .int .i64 x.qty, .int .u64 x.seq]] w fun e w' => e = .returned (.bool true) ∧ Gw w w' := by
  go_enter Try.func38, Try.ntmps38
  go_wp2_with fail
  go_ret
  exact ⟨rfl, (Gw.refl w).alloc _⟩
set_option maxHeartbeats 4000000 in
set_option maxRecDepth 100000 in
theorem rg_w7_2 (x : Od) (w : World) (h0 : (0 ≤ x.acc)) (h1 : (x.acc < 8)) (h2 : (x.side == 1) = false) (h2' : (x.side == 2) = true) (h3 : (1 ≤ x.price)) (h4 : (x.price ≤ 1099511627776)) (h5 : (1 ≤ x.qty)) (h6 : (x.qty ≤ 1099511627776)) : Calls Try.prog 38 #[.agg #[.int .u64 x.id, .int .i64 x.acc, .int .i64 x.side, .int .i64 x.price, .int .i64 x.qty, .int .u64 x.seq]] w fun e w' => e = .returned (.bool true) ∧ Gw w w' := by
  go_enter Try.func38, Try.ntmps38
  go_wp2_with fail
  go_ret
  exact ⟨rfl, (Gw.refl w).alloc _⟩
theorem rGood_c (x : Od) (w : World) : Calls Try.prog 38 #[.agg #[.int .u64 x.id, .int .i64 x.acc, .int .i64 x.side, .int .i64 x.price, .int .i64 x.qty, .int .u64 x.seq]] w fun e w' => e = .returned (.bool (goodO x)) ∧ Gw w w' := by
  unfold goodO
  by_cases h0 : 0 ≤ x.acc
  rotate_left
  · rw [decide_eq_false h0]; simp only [Bool.false_and]; exact rg_w0_1 x w h0
  rw [decide_eq_true h0, Bool.true_and]
  by_cases h1 : x.acc < 8
  rotate_left
  · rw [decide_eq_false h1]; simp only [Bool.false_and]; exact rg_w1_1 x w h0 h1
  rw [decide_eq_true h1, Bool.true_and]
  have rk := rk_2 x.side
  cases h2 : (x.side == 1) with
  | true =>
    have e : (rkN x.side != 2) = true := by
      rw [beq_iff_eq] at h2; unfold rkN; rw [if_pos h2]; rfl
    rw [e, Bool.true_and]
    by_cases h3 : 1 ≤ x.price
    rotate_left
    · rw [decide_eq_false h3]; simp only [Bool.false_and]; exact rg_w3_1 x w h0 h1 h2 h3
    rw [decide_eq_true h3]
    rw [Bool.true_and]
    by_cases h4 : x.price ≤ 1099511627776
    rotate_left
    · rw [decide_eq_false h4]; simp only [Bool.false_and]; exact rg_w4_1 x w h0 h1 h2 h3 h4
    rw [decide_eq_true h4]
    rw [Bool.true_and]
    by_cases h5 : 1 ≤ x.qty
    rotate_left
    · rw [decide_eq_false h5]; simp only [Bool.false_and]; exact rg_w5_1 x w h0 h1 h2 h3 h4 h5
    rw [decide_eq_true h5]
    rw [Bool.true_and]
    by_cases h6 : x.qty ≤ 1099511627776
    rotate_left
    · rw [decide_eq_false h6]; exact rg_w6_1 x w h0 h1 h2 h3 h4 h5 h6
    rw [decide_eq_true h6]
    exact rg_w7_1 x w h0 h1 h2 h3 h4 h5 h6
  
  | false =>
    cases h2' : (x.side == 2) with
    | true =>
      have e : (rkN x.side != 2) = true := by
        rw [beq_iff_eq] at h2'; rw [beq_eq_false_iff_ne] at h2; unfold rkN; rw [if_neg h2, if_pos h2']; rfl
      rw [e, Bool.true_and]
      by_cases h3 : 1 ≤ x.price
      rotate_left
      · rw [decide_eq_false h3]; simp only [Bool.false_and]; exact rg_w3_2 x w h0 h1 h2 h2' h3
      rw [decide_eq_true h3]
      rw [Bool.true_and]
      by_cases h4 : x.price ≤ 1099511627776
      rotate_left
      · rw [decide_eq_false h4]; simp only [Bool.false_and]; exact rg_w4_2 x w h0 h1 h2 h2' h3 h4
      rw [decide_eq_true h4]
      rw [Bool.true_and]
      by_cases h5 : 1 ≤ x.qty
      rotate_left
      · rw [decide_eq_false h5]; simp only [Bool.false_and]; exact rg_w5_2 x w h0 h1 h2 h2' h3 h4 h5
      rw [decide_eq_true h5]
      rw [Bool.true_and]
      by_cases h6 : x.qty ≤ 1099511627776
      rotate_left
      · rw [decide_eq_false h6]; exact rg_w6_2 x w h0 h1 h2 h2' h3 h4 h5 h6
      rw [decide_eq_true h6]
      exact rg_w7_2 x w h0 h1 h2 h2' h3 h4 h5 h6
    
    | false =>
      have e : (rkN x.side != 2) = false := by
        rw [beq_eq_false_iff_ne] at h2 h2'; unfold rkN; rw [if_neg h2, if_neg h2']; rfl
      rw [e]; simp only [Bool.false_and]
      exact rg_w2_1 x w h0 h1 h2 h2'
/-- What is held: the asset, how much, the error. -/
def holdO (x : Od) : Int × Int × Int := if goodO x = false then (0, 0, 2) else if x.side = 2 then (2, x.qty, 0) else if x.price * x.qty ≤ 4611686018427387904 then (1, x.price * x.qty, 0) else (0, 0, 10)
theorem good_b {x : Od} (h : goodO x = true) : 1 ≤ x.price ∧ x.price ≤ 1099511627776 ∧ 1 ≤ x.qty ∧ x.qty ≤ 1099511627776 := by
  unfold goodO at h
  simp only [Bool.and_eq_true, decide_eq_true_iff] at h
  omega
def HoldIs (w : World) (x : Od) (e : Ending) (w' : World) : Prop := e = .returned (.tuple #[.int .i64 (holdO x).1, .int .i64 (holdO x).2.1, .int .i64 (holdO x).2.2]) ∧ Below w.heap.size w w'
end Go.Proofs.Ytgbmgdffgmablaa
