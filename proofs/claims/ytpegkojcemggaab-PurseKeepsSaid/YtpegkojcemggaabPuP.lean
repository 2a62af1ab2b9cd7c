/- purse: a till as 49 whole numbers (six of each of eight purses, the house's last); plain. No program. -/
import Derived.Test.YtpegkojcemggaabNum
namespace Go.Proofs.Ytpegkojcemggaab

/-- A till: 6 * a + 0 .. 5: Cash, Stock, HeldCash, HeldStock, Owed, Volume of account a; 48: House. -/
abbrev Ti := Nat → Int
def MM : Int := 4611686018427387904
def Mny (n : Int) : Prop := 0 ≤ n ∧ n ≤ 4611686018427387904
instance (n : Int) : Decidable (Mny n) := by unfold Mny; infer_instance
def mnyB (n : Int) : Bool := decide (Mny n)
def upd (z : Ti) (k : Nat) (n : Int) : Ti := fun i => if i = k then z k + n else z i
def cashS (z : Ti) : Int := z 0 + z 6 + z 12 + z 18 + z 24 + z 30 + z 36 + z 42 + z 48
def stockS (z : Ti) : Int := z 1 + z 7 + z 13 + z 19 + z 25 + z 31 + z 37 + z 43
def PurOk (z : Ti) (a : Nat) : Prop := Mny (z (6 * a)) ∧ Mny (z (6 * a + 1)) ∧ Mny (z (6 * a + 2)) ∧ Mny (z (6 * a + 3)) ∧ Mny (z (6 * a + 4)) ∧ Mny (z (6 * a + 5)) ∧ z (6 * a + 2) ≤ z (6 * a) ∧ z (6 * a + 3) ≤ z (6 * a + 1)
instance (z : Ti) (a : Nat) : Decidable (PurOk z a) := by unfold PurOk; infer_instance
def Good (z : Ti) : Prop := (∀ a, a < 8 → PurOk z a) ∧ Mny (z 48) ∧ cashS z ≤ 4611686018427387904 ∧ stockS z ≤ 4611686018427387904
theorem upd_same (z : Ti) (k : Nat) (n : Int) : upd z k n k = z k + n := by unfold upd; rw [if_pos rfl]
theorem upd_other (z : Ti) (k i : Nat) (n : Int) (h : i ≠ k) : upd z k n i = z i := by unfold upd; rw [if_neg h]
theorem acc8 {a : Nat} (h : a < 8) : a = 0 ∨ a = 1 ∨ a = 2 ∨ a = 3 ∨ a = 4 ∨ a = 5 ∨ a = 6 ∨ a = 7 := by omega
/-- The sum of an asset (1: cash, with the house's; else stock). -/
def allS (z : Ti) (s : Int) : Int := if s = 1 then cashS z else stockS z
def offS (s : Int) : Nat := if s = 1 then 0 else 1
theorem cash_cash (z : Ti) {a : Nat} (n : Int) (h : a < 8) : cashS (upd z (6 * a) n) = cashS z + n := by
  rcases acc8 h with rfl | rfl | rfl | rfl | rfl | rfl | rfl | rfl <;> simp [cashS, upd] <;> omega
theorem cash_other (z : Ti) {a f : Nat} (n : Int) (_h : a < 8) (hf : f < 6) (hf0 : f ≠ 0) : cashS (upd z (6 * a + f) n) = cashS z := by
  unfold cashS
  repeat rw [upd_other _ _ _ _ (by omega)]
theorem cash_house (z : Ti) (n : Int) : cashS (upd z 48 n) = cashS z + n := by simp [cashS, upd]; omega
theorem stock_stock (z : Ti) {a : Nat} (n : Int) (h : a < 8) : stockS (upd z (6 * a + 1) n) = stockS z + n := by
  rcases acc8 h with rfl | rfl | rfl | rfl | rfl | rfl | rfl | rfl <;> simp [stockS, upd] <;> omega
theorem stock_other (z : Ti) {a f : Nat} (n : Int) (_h : a < 8) (hf : f < 6) (hf0 : f ≠ 1) : stockS (upd z (6 * a + f) n) = stockS z := by
  unfold stockS
  repeat rw [upd_other _ _ _ _ (by omega)]
theorem stock_house (z : Ti) (n : Int) : stockS (upd z 48 n) = stockS z := by simp [stockS, upd]
/-- In a good till nobody has more than all have. -/
theorem cash_le {z : Ti} (g : Good z) {a : Nat} (h : a < 8) : z (6 * a) + z 48 ≤ cashS z := by
  have g' : ∀ b, b < 8 → 0 ≤ z (6 * b) := fun b hb => (g.1 b hb).1.1
  have g0 := g' 0 (by omega); have g1 := g' 1 (by omega); have g2 := g' 2 (by omega); have g3 := g' 3 (by omega); have g4 := g' 4 (by omega); have g5 := g' 5 (by omega); have g6 := g' 6 (by omega); have g7 := g' 7 (by omega)
  rcases acc8 h with rfl | rfl | rfl | rfl | rfl | rfl | rfl | rfl <;> simp [cashS] at * <;> omega
theorem stock_le {z : Ti} (g : Good z) {a : Nat} (h : a < 8) : z (6 * a + 1) ≤ stockS z := by
  have g' : ∀ b, b < 8 → 0 ≤ z (6 * b + 1) := fun b hb => (g.1 b hb).2.1.1
  have g0 := g' 0 (by omega); have g1 := g' 1 (by omega); have g2 := g' 2 (by omega); have g3 := g' 3 (by omega); have g4 := g' 4 (by omega); have g5 := g' 5 (by omega); have g6 := g' 6 (by omega); have g7 := g' 7 (by omega)
  rcases acc8 h with rfl | rfl | rfl | rfl | rfl | rfl | rfl | rfl <;> simp [stockS] at * <;> omega
theorem cash_two {z : Ti} (g : Good z) {a b : Nat} (h : a < 8) (hb : b < 8) (hab : a ≠ b) : z (6 * a) + z (6 * b) ≤ cashS z := by
  have g' : ∀ b, b < 8 → 0 ≤ z (6 * b) := fun b hb => (g.1 b hb).1.1
  have g0 := g' 0 (by omega); have g1 := g' 1 (by omega); have g2 := g' 2 (by omega); have g3 := g' 3 (by omega); have g4 := g' 4 (by omega); have g5 := g' 5 (by omega); have g6 := g' 6 (by omega); have g7 := g' 7 (by omega)
  have g8 := g.2.1.1
  rcases acc8 h with rfl | rfl | rfl | rfl | rfl | rfl | rfl | rfl <;> rcases acc8 hb with rfl | rfl | rfl | rfl | rfl | rfl | rfl | rfl <;> simp [cashS] at * <;> omega
theorem stock_two {z : Ti} (g : Good z) {a b : Nat} (h : a < 8) (hb : b < 8) (hab : a ≠ b) : z (6 * a + 1) + z (6 * b + 1) ≤ stockS z := by
  have g' : ∀ b, b < 8 → 0 ≤ z (6 * b + 1) := fun b hb => (g.1 b hb).2.1.1
  have g0 := g' 0 (by omega); have g1 := g' 1 (by omega); have g2 := g' 2 (by omega); have g3 := g' 3 (by omega); have g4 := g' 4 (by omega); have g5 := g' 5 (by omega); have g6 := g' 6 (by omega); have g7 := g' 7 (by omega)
  rcases acc8 h with rfl | rfl | rfl | rfl | rfl | rfl | rfl | rfl <;> rcases acc8 hb with rfl | rfl | rfl | rfl | rfl | rfl | rfl | rfl <;> simp [stockS] at * <;> omega

/-- What stands at k turned to v. -/
def put (z : Ti) (k : Nat) (v : Int) : Ti := fun i => if i = k then v else z i
theorem put_upd (z : Ti) (k : Nat) (n : Int) : put z k (z k + n) = upd z k n := rfl
theorem put_same (z : Ti) (k : Nat) (v : Int) : put z k v k = v := by unfold put; rw [if_pos rfl]
theorem put_other (z : Ti) (k i : Nat) (v : Int) (h : i ≠ k) : put z k v i = z i := by unfold put; rw [if_neg h]
theorem put_as (z : Ti) (k : Nat) (v : Int) : put z k v = upd z k (v - z k) := by
  funext i; unfold put upd; split
  · omega
  · rfl
theorem upd_zero (z : Ti) (k : Nat) : upd z k 0 = z := by
  funext i; unfold upd; split
  · subst_vars; omega
  · rfl
theorem good_put {z : Ti} (g : Good z) {a f : Nat} (h : a < 8) (hf : f < 6) {v : Int} (hv : Mny v) (h0 : f = 0 → z (6 * a + 2) ≤ v ∧ cashS z + (v - z (6 * a)) ≤ 4611686018427387904)
    (h1 : f = 1 → z (6 * a + 3) ≤ v ∧ stockS z + (v - z (6 * a + 1)) ≤ 4611686018427387904) (h2 : f = 2 → v ≤ z (6 * a)) (h3 : f = 3 → v ≤ z (6 * a + 1)) : Good (put z (6 * a + f) v) := by
  refine ⟨fun b hb => ?_, ?_, ?_, ?_⟩
  · obtain ⟨p0, p1, p2, p3, p4, p5, p6, p7⟩ := g.1 b hb
    by_cases hab : a = b
    · subst hab
      have e : f = 0 ∨ f = 1 ∨ f = 2 ∨ f = 3 ∨ f = 4 ∨ f = 5 := by omega
      rcases e with rfl | rfl | rfl | rfl | rfl | rfl <;> simp only [forall_const, Nat.reduceEqDiff, false_implies, reduceCtorEq] at h0 h1 h2 h3 <;> unfold PurOk <;> (refine ⟨?_, ?_, ?_, ?_, ?_, ?_, ?_, ?_⟩) <;> simp [put] <;> first | assumption | exact h0.1 | exact h1.1
    · have o : ∀ k, k < 6 → put z (6 * a + f) v (6 * b + k) = z (6 * b + k) := fun k hk => put_other _ _ _ _ (by omega)
      have o0 := o 0 (by omega)
      rw [Nat.add_zero] at o0
      unfold PurOk
      rw [o0, o 1 (by omega), o 2 (by omega), o 3 (by omega), o 4 (by omega), o 5 (by omega)]
      exact ⟨p0, p1, p2, p3, p4, p5, p6, p7⟩
  · rw [put_other _ _ _ _ (by omega)]; exact g.2.1
  · rw [put_as]
    by_cases e : f = 0
    · subst e; rw [Nat.add_zero, cash_cash _ _ h]; exact (h0 rfl).2
    · rw [cash_other _ _ h hf e]; exact g.2.2.1
  · rw [put_as]
    by_cases e : f = 1
    · subst e; rw [stock_stock _ _ h]; exact (h1 rfl).2
    · rw [stock_other _ _ h hf e]; exact g.2.2.2
theorem good_house {z : Ti} (g : Good z) {v : Int} (hv : Mny v) (h0 : cashS z + (v - z 48) ≤ 4611686018427387904) : Good (put z 48 v) := by
  refine ⟨fun b hb => ?_, ?_, ?_, ?_⟩
  · have o : ∀ k, k < 6 → put z 48 v (6 * b + k) = z (6 * b + k) := fun k hk => put_other _ _ _ _ (by omega)
    have o0 := o 0 (by omega)
    rw [Nat.add_zero] at o0
    unfold PurOk
    rw [o0, o 1 (by omega), o 2 (by omega), o 3 (by omega), o 4 (by omega), o 5 (by omega)]
    exact g.1 b hb
  · rw [put_same]; exact hv
  · rw [put_as, cash_house]; exact h0
  · rw [put_as, stock_house]; exact g.2.2.2

/-- An account, and an asset, that there are. -/
def May (a s : Int) : Prop := 0 ≤ a ∧ a < 8 ∧ (s = 1 ∨ s = 2)
instance (a s : Int) : Decidable (May a s) := by unfold May; infer_instance
def There (a : Int) : Prop := 0 ≤ a ∧ a < 8
instance (a : Int) : Decidable (There a) := by unfold There; infer_instance
def ix (a s : Int) : Nat := 6 * a.toNat + offS s
def freeN (z : Ti) (a s : Int) : Int := if May a s then z (ix a s) - z (ix a s + 2) else 0
def owedS (z : Ti) (a s : Int) : Int := if s = 1 then z (6 * a.toNat + 4) else 0
def depN (z : Ti) (a s n : Int) : Ti × Int := if May a s ∧ 1 ≤ n ∧ n ≤ 4611686018427387904 then (if allS z s + n ≤ 4611686018427387904 then (upd z (ix a s) n, 0) else (z, 10)) else (z, 2)
def wdN (z : Ti) (a s n : Int) : Ti × Int := if May a s ∧ 1 ≤ n ∧ n ≤ 4611686018427387904 then (if n ≤ freeN z a s - owedS z a s then (upd z (ix a s) (-n), 0) else (z, 53)) else (z, 2)
def holdN (z : Ti) (a s n : Int) : Ti × Int := if May a s ∧ Mny n then (if n ≤ freeN z a s then (upd z (ix a s + 2) n, 0) else (z, 53)) else (z, 2)
def relN (z : Ti) (a s n : Int) : Ti × Int := if May a s ∧ Mny n then (if n ≤ z (ix a s + 2) then (upd z (ix a s + 2) (-n), 0) else (z, 53)) else (z, 2)
def capN (a b : Int) : Int := if a < 0 ∨ b < 0 ∨ a > 4611686018427387904 ∨ b > 4611686018427387904 then 0 else if a > 4611686018427387904 - b then 4611686018427387904 else a + b
theorem cap_mny (a b : Int) : Mny (capN a b) := by
  unfold capN Mny
  split
  · omega
  · split <;> omega
def oweN (z : Ti) (a : Nat) (fee cash : Int) : Ti := put (put z (6 * a + 4) (capN (z (6 * a + 4)) fee)) (6 * a + 5) (capN (z (6 * a + 5)) cash)
structure Dl where
  b : Int
  s : Int
  cash : Int
  stock : Int
  hc : Int
  hs : Int
  bf : Int
  sf : Int
def Dl.may (d : Dl) : Prop := There d.b ∧ There d.s ∧ Mny d.cash ∧ Mny d.stock ∧ Mny d.hc ∧ Mny d.hs ∧ Mny d.bf ∧ Mny d.sf
instance (d : Dl) : Decidable d.may := by unfold Dl.may; infer_instance
/-- Behind both releases. -/
def relT (z : Ti) (d : Dl) : Ti := upd (upd z (6 * d.b.toNat + 2) (-d.hc)) (6 * d.s.toNat + 3) (-d.hs)
def Dl.can (z : Ti) (d : Dl) : Prop := d.hc ≤ z (6 * d.b.toNat + 2) ∧ d.hs ≤ z (6 * d.s.toNat + 3) ∧ d.cash ≤ relT z d (6 * d.b.toNat) - relT z d (6 * d.b.toNat + 2) ∧ d.stock ≤ relT z d (6 * d.s.toNat + 1) - relT z d (6 * d.s.toNat + 3)
instance (z : Ti) (d : Dl) : Decidable (d.can z) := by unfold Dl.can; infer_instance
def movT (z : Ti) (d : Dl) : Ti := upd (upd (upd (upd z (6 * d.b.toNat) (-d.cash)) (6 * d.s.toNat) d.cash) (6 * d.s.toNat + 1) (-d.stock)) (6 * d.b.toNat + 1) d.stock
def trN (z : Ti) (d : Dl) : Ti × Int := if d.may then (if d.can z then (oweN (oweN (movT (relT z d) d) d.b.toNat d.bf d.cash) d.s.toNat d.sf d.cash, 0) else (z, 53)) else (z, 2)
def stlM (z : Ti) (a : Nat) : Int := min (z (6 * a + 4)) (z (6 * a) - z (6 * a + 2))
def stlT (z : Ti) (a : Nat) (n : Int) : Ti := upd (upd (upd z (6 * a) (-n)) (6 * a + 4) (-n)) 48 n
def stlN (z : Ti) (a : Int) : Ti × Int × Int := if There a then (if z (6 * a.toNat + 4) = 0 then (z, 0, 51) else if z (6 * a.toNat) - z (6 * a.toNat + 2) = 0 then (z, 0, 53) else (stlT z a.toNat (stlM z a.toNat), stlM z a.toNat, 0)) else (z, 0, 2)

theorem good_in {z : Ti} (g : Good z) {k : Nat} (h : k < 49) : Mny (z k) := by
  by_cases e : k = 48
  · subst e; exact g.2.1
  · obtain ⟨p0, p1, p2, p3, p4, p5, _⟩ := g.1 (k / 6) (by omega)
    have hk : k = 6 * (k / 6) + k % 6 := by omega
    have hm : k % 6 < 6 := Nat.mod_lt _ (by omega)
    have e6 : k % 6 = 0 ∨ k % 6 = 1 ∨ k % 6 = 2 ∨ k % 6 = 3 ∨ k % 6 = 4 ∨ k % 6 = 5 := by omega
    rw [hk]
    rcases e6 with e6 | e6 | e6 | e6 | e6 | e6 <;> rw [e6] <;> assumption
theorem good_cash {z : Ti} (g : Good z) {a : Nat} (h : a < 8) {n : Int} (h1 : z (6 * a + 2) ≤ z (6 * a) + n) (h2 : cashS z + n ≤ 4611686018427387904) : Good (upd z (6 * a) n) := by
  rw [← put_upd]
  have := cash_le g h
  have g48 := g.2.1
  have g1 := (g.1 a h).2.2.1
  have hv : Mny (z (6 * a) + n) := by unfold Mny at *; omega
  exact good_put (f := 0) g h (by omega) hv (fun _ => ⟨h1, by omega⟩) (fun e => by omega) (fun e => by omega) (fun e => by omega)
theorem good_stock {z : Ti} (g : Good z) {a : Nat} (h : a < 8) {n : Int} (h1 : z (6 * a + 3) ≤ z (6 * a + 1) + n) (h2 : stockS z + n ≤ 4611686018427387904) : Good (upd z (6 * a + 1) n) := by
  rw [← put_upd]
  have := stock_le g h
  have g1 := (g.1 a h).2.2.2.1
  have hv : Mny (z (6 * a + 1) + n) := by unfold Mny at *; omega
  exact good_put (f := 1) g h (by omega) hv (fun e => by omega) (fun _ => ⟨h1, by omega⟩) (fun e => by omega) (fun e => by omega)
theorem good_hcash {z : Ti} (g : Good z) {a : Nat} (h : a < 8) {n : Int} (h0 : 0 ≤ z (6 * a + 2) + n) (h1 : z (6 * a + 2) + n ≤ z (6 * a)) : Good (upd z (6 * a + 2) n) := by
  rw [← put_upd]
  have g1 := (g.1 a h).1
  have hv : Mny (z (6 * a + 2) + n) := by unfold Mny at *; omega
  exact good_put (f := 2) g h (by omega) hv (fun e => by omega) (fun e => by omega) (fun _ => h1) (fun e => by omega)
theorem good_hstock {z : Ti} (g : Good z) {a : Nat} (h : a < 8) {n : Int} (h0 : 0 ≤ z (6 * a + 3) + n) (h1 : z (6 * a + 3) + n ≤ z (6 * a + 1)) : Good (upd z (6 * a + 3) n) := by
  rw [← put_upd]
  have g1 := (g.1 a h).2.1
  have hv : Mny (z (6 * a + 3) + n) := by unfold Mny at *; omega
  exact good_put (f := 3) g h (by omega) hv (fun e => by omega) (fun e => by omega) (fun e => by omega) (fun _ => h1)
theorem good_owe {z : Ti} (g : Good z) {a : Nat} (h : a < 8) (fee cash : Int) : Good (oweN z a fee cash) := by
  unfold oweN
  exact good_put (f := 5) (good_put (f := 4) g h (by omega) (cap_mny _ _) (fun e => by omega) (fun e => by omega) (fun e => by omega) (fun e => by omega)) h (by omega) (cap_mny _ _) (fun e => by omega) (fun e => by omega) (fun e => by omega) (fun e => by omega)
theorem cash_owe (z : Ti) {a : Nat} (h : a < 8) (fee cash : Int) : cashS (oweN z a fee cash) = cashS z := by
  unfold oweN; rw [put_as, cash_other _ _ h (by omega) (by omega), put_as, cash_other _ _ h (by omega) (by omega)]
theorem stock_owe (z : Ti) {a : Nat} (h : a < 8) (fee cash : Int) : stockS (oweN z a fee cash) = stockS z := by
  unfold oweN; rw [put_as, stock_other _ _ h (by omega) (by omega), put_as, stock_other _ _ h (by omega) (by omega)]

theorem ix_cash {a s : Int} (hs : s = 1) : ix a s = 6 * a.toNat := by unfold ix offS; rw [if_pos hs]; rfl
theorem ix_stock {a s : Int} (hs : s = 2) : ix a s = 6 * a.toNat + 1 := by unfold ix offS; rw [if_neg (by omega)]
theorem nat8 {a : Int} (h : 0 ≤ a ∧ a < 8) : a.toNat < 8 := by omega
theorem dep_good {z : Ti} (g : Good z) (a s n : Int) : Good (depN z a s n).1 := by
  unfold depN
  split
  · rename_i h
    obtain ⟨⟨h1, h2, hs⟩, h3, h4⟩ := h
    split
    · rename_i h5
      have h8 := nat8 ⟨h1, h2⟩
      obtain ⟨p0, p1, p2, p3, p4, p5, p6, p7⟩ := g.1 _ h8
      rcases hs with hs | hs
      · rw [ix_cash hs]; unfold allS at h5; rw [if_pos hs] at h5; exact good_cash g h8 (by omega) h5
      · rw [ix_stock hs]; unfold allS at h5; rw [if_neg (by omega)] at h5; exact good_stock g h8 (by omega) h5
    · exact g
  · exact g
theorem wd_good {z : Ti} (g : Good z) (a s n : Int) : Good (wdN z a s n).1 := by
  unfold wdN
  split
  · rename_i h
    obtain ⟨hm, h3, h4⟩ := h
    obtain ⟨h1, h2, hs⟩ := hm
    split
    · rename_i h5
      have h8 := nat8 ⟨h1, h2⟩
      obtain ⟨p0, p1, p2, p3, p4, p5, p6, p7⟩ := g.1 _ h8
      unfold freeN at h5; rw [if_pos ⟨h1, h2, hs⟩] at h5
      have gc := g.2.2.1
      have gs := g.2.2.2
      rcases hs with hs | hs
      · rw [ix_cash hs] at h5 ⊢; unfold owedS at h5; rw [if_pos hs] at h5; unfold Mny at p4; exact good_cash g h8 (by omega) (by omega)
      · rw [ix_stock hs] at h5 ⊢; rw [show 6 * a.toNat + 1 + 2 = 6 * a.toNat + 3 from rfl] at h5; unfold owedS at h5; rw [if_neg (by omega)] at h5; exact good_stock g h8 (by omega) (by omega)
    · exact g
  · exact g
theorem hold_good {z : Ti} (g : Good z) (a s n : Int) : Good (holdN z a s n).1 := by
  unfold holdN
  split
  · rename_i h
    obtain ⟨hm, h3⟩ := h
    obtain ⟨h1, h2, hs⟩ := hm
    unfold Mny at h3
    split
    · rename_i h5
      have h8 := nat8 ⟨h1, h2⟩
      obtain ⟨p0, p1, p2, p3, p4, p5, p6, p7⟩ := g.1 _ h8
      unfold freeN at h5; rw [if_pos ⟨h1, h2, hs⟩] at h5
      unfold Mny at p2 p3
      rcases hs with hs | hs
      · rw [ix_cash hs] at h5 ⊢; exact good_hcash g h8 (by omega) (by omega)
      · rw [ix_stock hs] at h5 ⊢; rw [show 6 * a.toNat + 1 + 2 = 6 * a.toNat + 3 from rfl] at h5 ⊢; exact good_hstock g h8 (by omega) (by omega)
    · exact g
  · exact g
theorem rel_good {z : Ti} (g : Good z) (a s n : Int) : Good (relN z a s n).1 := by
  unfold relN
  split
  · rename_i h
    obtain ⟨hm, h3⟩ := h
    obtain ⟨h1, h2, hs⟩ := hm
    unfold Mny at h3
    split
    · rename_i h5
      have h8 := nat8 ⟨h1, h2⟩
      obtain ⟨p0, p1, p2, p3, p4, p5, p6, p7⟩ := g.1 _ h8
      unfold Mny at p2 p3
      rcases hs with hs | hs
      · rw [ix_cash hs] at h5 ⊢; exact good_hcash g h8 (by omega) (by omega)
      · rw [ix_stock hs] at h5 ⊢; rw [show 6 * a.toNat + 1 + 2 = 6 * a.toNat + 3 from rfl] at h5 ⊢; exact good_hstock g h8 (by omega) (by omega)
    · exact g
  · exact g
/-- The tills within a trade that is done. -/
theorem tr_steps {z : Ti} (g : Good z) {d : Dl} (hm : d.may) (hc : d.can z) :
    Good (relT z d) ∧ Good (upd (relT z d) (6 * d.b.toNat) (-d.cash)) ∧ Good (upd (upd (relT z d) (6 * d.b.toNat) (-d.cash)) (6 * d.s.toNat) d.cash) ∧
    Good (upd (upd (upd (relT z d) (6 * d.b.toNat) (-d.cash)) (6 * d.s.toNat) d.cash) (6 * d.s.toNat + 1) (-d.stock)) ∧ Good (movT (relT z d) d) := by
  obtain ⟨hb, hs, m1, m2, m3, m4, m5, m6⟩ := hm
  obtain ⟨c1, c2, c3, c4⟩ := hc
  have b8 := nat8 hb
  have s8 := nat8 hs
  have k1 : Good (upd z (6 * d.b.toNat + 2) (-d.hc)) := by
    obtain ⟨p0, p1, p2, p3, p4, p5, p6, p7⟩ := g.1 _ b8
    unfold Mny at m3 p2
    exact good_hcash g b8 (by omega) (by omega)
  have k2 : Good (relT z d) := by
    have o : upd z (6 * d.b.toNat + 2) (-d.hc) (6 * d.s.toNat + 3) = z (6 * d.s.toNat + 3) := upd_other _ _ _ _ (by omega)
    obtain ⟨p0, p1, p2, p3, p4, p5, p6, p7⟩ := k1.1 _ s8
    unfold Mny at m4 p3
    unfold relT
    exact good_hstock k1 s8 (by omega) (by omega)
  obtain ⟨q, hq⟩ : ∃ q, q = relT z d := ⟨_, rfl⟩
  rw [← hq] at k2 c3 c4 ⊢
  have gc := k2.2.2.1
  have gs := k2.2.2.2
  unfold Mny at m1 m2
  have k3 : Good (upd q (6 * d.b.toNat) (-d.cash)) := good_cash k2 b8 (by omega) (by omega)
  have k4 : Good (upd (upd q (6 * d.b.toNat) (-d.cash)) (6 * d.s.toNat) d.cash) := by
    obtain ⟨p0, p1, p2, p3, p4, p5, p6, p7⟩ := k3.1 _ s8
    refine good_cash k3 s8 (by omega) ?_
    rw [cash_cash _ _ b8]; omega
  have k5 : Good (upd (upd (upd q (6 * d.b.toNat) (-d.cash)) (6 * d.s.toNat) d.cash) (6 * d.s.toNat + 1) (-d.stock)) := by
    have o1 : upd (upd q (6 * d.b.toNat) (-d.cash)) (6 * d.s.toNat) d.cash (6 * d.s.toNat + 1) = q (6 * d.s.toNat + 1) := by rw [upd_other _ _ _ _ (by omega), upd_other _ _ _ _ (by omega)]
    have o2 : upd (upd q (6 * d.b.toNat) (-d.cash)) (6 * d.s.toNat) d.cash (6 * d.s.toNat + 3) = q (6 * d.s.toNat + 3) := by rw [upd_other _ _ _ _ (by omega), upd_other _ _ _ _ (by omega)]
    have := k4.2.2.2
    exact good_stock k4 s8 (by omega) (by omega)
  refine ⟨k2, k3, k4, k5, ?_⟩
  obtain ⟨p0, p1, p2, p3, p4, p5, p6, p7⟩ := k5.1 _ b8
  have e : stockS (upd (upd (upd q (6 * d.b.toNat) (-d.cash)) (6 * d.s.toNat) d.cash) (6 * d.s.toNat + 1) (-d.stock)) + d.stock = stockS q := by
    have w1 := stock_other (upd q (6 * d.b.toNat) (-d.cash)) (f := 0) d.cash s8 (by omega) (by omega)
    have w2 := stock_other q (f := 0) (-d.cash) b8 (by omega) (by omega)
    rw [Nat.add_zero] at w1 w2
    rw [stock_stock _ _ s8, w1, w2]; omega
  unfold movT
  exact good_stock k5 b8 (by omega) (by omega)
theorem tr_good {z : Ti} (g : Good z) (d : Dl) : Good (trN z d).1 := by
  unfold trN
  split
  · rename_i hm
    split
    · rename_i hc
      exact good_owe (good_owe (tr_steps g hm hc).2.2.2.2 (nat8 hm.1) _ _) (nat8 hm.2.1) _ _
    · exact g
  · exact g
theorem stl_mny {z : Ti} (g : Good z) {a : Nat} (h : a < 8) (h1 : z (6 * a + 4) ≠ 0) (h2 : z (6 * a) - z (6 * a + 2) ≠ 0) : 1 ≤ stlM z a ∧ stlM z a ≤ z (6 * a + 4) ∧ stlM z a ≤ z (6 * a) - z (6 * a + 2) := by
  obtain ⟨p0, p1, p2, p3, p4, p5, p6, p7⟩ := g.1 a h
  unfold stlM Mny at *
  omega
theorem stl_steps {z : Ti} (g : Good z) {a : Nat} (h : a < 8) {n : Int} (h0 : 1 ≤ n) (h1 : n ≤ z (6 * a + 4)) (h2 : n ≤ z (6 * a) - z (6 * a + 2)) :
    Good (upd z (6 * a) (-n)) ∧ Good (upd (upd z (6 * a) (-n)) (6 * a + 4) (-n)) ∧ Good (stlT z a n) := by
  obtain ⟨p0, p1, p2, p3, p4, p5, p6, p7⟩ := g.1 a h
  have gc := g.2.2.1
  have k1 : Good (upd z (6 * a) (-n)) := good_cash g h (by omega) (by omega)
  have k2 : Good (upd (upd z (6 * a) (-n)) (6 * a + 4) (-n)) := by
    rw [← put_upd, upd_other _ _ _ _ (by omega)]
    exact good_put (f := 4) k1 h (by omega) (by unfold Mny at *; omega) (fun e => by omega) (fun e => by omega) (fun e => by omega) (fun e => by omega)
  refine ⟨k1, k2, ?_⟩
  have e : cashS (upd (upd z (6 * a) (-n)) (6 * a + 4) (-n)) = cashS z - n := by
    rw [cash_other _ _ h (by omega) (by omega), cash_cash _ _ h]; omega
  have e48 : upd (upd z (6 * a) (-n)) (6 * a + 4) (-n) 48 = z 48 := by rw [upd_other _ _ _ _ (by omega), upd_other _ _ _ _ (by omega)]
  have g48 := g.2.1
  have cl := cash_le g h
  unfold stlT
  rw [← put_upd]
  refine good_house k2 ?_ ?_
  · rw [e48]; unfold Mny at *; omega
  · rw [e, e48]; omega
theorem stl_good {z : Ti} (g : Good z) (a : Int) : Good (stlN z a).1 := by
  unfold stlN
  split
  · rename_i h
    split
    · exact g
    · rename_i h1
      split
      · exact g
      · rename_i h2
        obtain ⟨s1, s2, s3⟩ := stl_mny g (nat8 h) h1 h2
        exact (stl_steps g (nat8 h) s1 s2 s3).2.2
  · exact g

/-- What follows: the totals. -/
theorem dep_sum (z : Ti) (a s n : Int) : cashS (depN z a s n).1 = cashS z + (if (depN z a s n).2 = 0 ∧ s = 1 then n else 0) ∧ stockS (depN z a s n).1 = stockS z + (if (depN z a s n).2 = 0 ∧ s ≠ 1 then n else 0) := by
  unfold depN
  split
  · rename_i h
    obtain ⟨⟨h1, h2, hs⟩, h3, h4⟩ := h
    have h8 := nat8 ⟨h1, h2⟩
    split
    · rcases hs with hs | hs
      · have w2 := stock_other z (f := 0) n h8 (by omega) (by omega)
        rw [Nat.add_zero] at w2
        subst hs; simp only [ix_cash (a := a) (s := 1) rfl, cash_cash _ _ h8, w2]; simp
      · subst hs; simp only [ix_stock (a := a) (s := 2) rfl, stock_stock _ _ h8, cash_other _ _ h8 (show 1 < 6 by omega) (show 1 ≠ 0 by omega)]; simp
    · simp
  · simp
theorem wd_sum (z : Ti) (a s n : Int) : cashS (wdN z a s n).1 = cashS z + (if (wdN z a s n).2 = 0 ∧ s = 1 then -n else 0) ∧ stockS (wdN z a s n).1 = stockS z + (if (wdN z a s n).2 = 0 ∧ s ≠ 1 then -n else 0) := by
  unfold wdN
  split
  · rename_i h
    obtain ⟨⟨h1, h2, hs⟩, h3, h4⟩ := h
    have h8 := nat8 ⟨h1, h2⟩
    split
    · rcases hs with hs | hs
      · have w2 := stock_other z (f := 0) (-n) h8 (by omega) (by omega)
        rw [Nat.add_zero] at w2
        subst hs; simp only [ix_cash (a := a) (s := 1) rfl, cash_cash _ _ h8, w2]; simp
      · subst hs; simp only [ix_stock (a := a) (s := 2) rfl, stock_stock _ _ h8, cash_other _ _ h8 (show 1 < 6 by omega) (show 1 ≠ 0 by omega)]; simp
    · simp
  · simp
theorem held_sum (z : Ti) {a s : Int} (h : May a s) (n : Int) : cashS (upd z (ix a s + 2) n) = cashS z ∧ stockS (upd z (ix a s + 2) n) = stockS z := by
  obtain ⟨h1, h2, hs⟩ := h
  have h8 := nat8 ⟨h1, h2⟩
  rcases hs with hs | hs
  · rw [ix_cash hs]; exact ⟨cash_other _ _ h8 (by omega) (by omega), stock_other _ _ h8 (by omega) (by omega)⟩
  · rw [ix_stock hs]; exact ⟨cash_other _ (f := 3) _ h8 (by omega) (by omega), stock_other _ (f := 3) _ h8 (by omega) (by omega)⟩
theorem hold_sum (z : Ti) (a s n : Int) : cashS (holdN z a s n).1 = cashS z ∧ stockS (holdN z a s n).1 = stockS z := by
  unfold holdN
  split
  · rename_i h
    split
    · exact held_sum z h.1 _
    · exact ⟨rfl, rfl⟩
  · exact ⟨rfl, rfl⟩
theorem rel_sum (z : Ti) (a s n : Int) : cashS (relN z a s n).1 = cashS z ∧ stockS (relN z a s n).1 = stockS z := by
  unfold relN
  split
  · rename_i h
    split
    · exact held_sum z h.1 _
    · exact ⟨rfl, rfl⟩
  · exact ⟨rfl, rfl⟩
theorem tr_sum (z : Ti) (d : Dl) : cashS (trN z d).1 = cashS z ∧ stockS (trN z d).1 = stockS z := by
  unfold trN
  split
  · rename_i hm
    have b8 := nat8 hm.1
    have s8 := nat8 hm.2.1
    split
    · have v0 : ∀ (q : Ti) (n : Int), stockS (upd q (6 * d.b.toNat) n) = stockS q := fun q n => stock_other q (f := 0) n b8 (by omega) (by omega)
      have v1 : ∀ (q : Ti) (n : Int), stockS (upd q (6 * d.s.toNat) n) = stockS q := fun q n => stock_other q (f := 0) n s8 (by omega) (by omega)
      simp only [cash_owe _ b8, cash_owe _ s8, stock_owe _ b8, stock_owe _ s8, movT, relT]
      rw [cash_other _ _ b8 (by omega) (by omega), cash_other _ _ s8 (by omega) (by omega), cash_cash _ _ s8, cash_cash _ _ b8, cash_other _ _ s8 (by omega) (by omega), cash_other _ _ b8 (by omega) (by omega),
        stock_stock _ _ b8, stock_stock _ _ s8, v1, v0, stock_other _ _ s8 (by omega) (by omega), stock_other _ _ b8 (by omega) (by omega)]
      omega
    · exact ⟨rfl, rfl⟩
  · exact ⟨rfl, rfl⟩
theorem stl_sum (z : Ti) (a : Int) : cashS (stlN z a).1 = cashS z ∧ stockS (stlN z a).1 = stockS z := by
  unfold stlN
  split
  · rename_i h
    have h8 := nat8 h
    split
    · exact ⟨rfl, rfl⟩
    · split
      · exact ⟨rfl, rfl⟩
      · have v0 : ∀ (q : Ti) (n : Int), stockS (upd q (6 * a.toNat) n) = stockS q := fun q n => stock_other q (f := 0) n h8 (by omega) (by omega)
        simp only [stlT]
        rw [cash_house, cash_other _ _ h8 (by omega) (by omega), cash_cash _ _ h8, stock_house, stock_other _ _ h8 (by omega) (by omega), v0]
        omega
  · exact ⟨rfl, rfl⟩
end Go.Proofs.Ytpegkojcemggaab
