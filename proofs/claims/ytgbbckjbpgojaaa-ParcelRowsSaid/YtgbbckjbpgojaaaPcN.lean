/- parcel, the reference: the sum is held against the bytes; what is taken. -/
import Derived.Test.YtgbbckjbpgojaaaPcM
namespace Go.Proofs.Ytgbbckjbpgojaaa
open Go.RowKit

theorem SlB.mid {w : World} {b off n : Nat} {l : List UInt8} (h : SlB w (some ⟨b, off, none⟩) n l) (tz k : Nat) (hk : tz + k ≤ n) : SlB w (some ⟨b, off + tz, none⟩) k ((l.drop tz).take k) := by
  have := (h.drop tz (by omega)).upTo k (by omega)
  simpa [addr_add] using this
/-- What holds of the world beside the calls. -/
def TW (w : World) (b off n : Nat) (l : List UInt8) (A1 : Option Addr) (n1 d1 : Nat) (t : List UInt8) (W : World) : Prop :=
  Below w.heap.size w W ∧ w.heap.size ≤ W.heap.size ∧ SlB W (some ⟨b, off, none⟩) n l ∧ W.heap[w.heap.size]? = some (.cells #[.slice A1 n1 d1, .bool false] 52 (0, 0)) ∧ SlB W A1 n1 t
theorem TW.below {w : World} {b off n : Nat} {l : List UInt8} {A1 : Option Addr} {n1 d1 : Nat} {t : List UInt8} {W W' : World} (h : TW w b off n l A1 n1 d1 t W) (hb : Below W.heap.size W W') : TW w b off n l A1 n1 d1 t W' :=
  ⟨h.1.trans (hb.mono h.2.1), Nat.le_trans h.2.1 hb.size, h.2.2.1.fr0 (S := fun _ => False) (Fr.of_below hb) (fun _ _ _ h => h), (hb.block _ (blk_lt h.2.2.2.1)).trans h.2.2.2.1, h.2.2.2.2.fr0 (S := fun _ => False) (Fr.of_below hb) (fun _ _ _ h => h)⟩
theorem TW.drew {w : World} {b off n : Nat} {l : List UInt8} {A1 : Option Addr} {n1 d1 : Nat} {t : List UInt8} {W : World} (h : TW w b off n l A1 n1 d1 t W) : TW w b off n l A1 n1 d1 t W.drew := ⟨h.1.drew, h.2.1, h.2.2.1, h.2.2.2.1, h.2.2.2.2⟩
/-- append, at a step of a region that draws; nothing may be appended, too. -/
theorem step_append_at {ops : Array Oper} {o : Oper} {a : Act} {w : World} {K : Act → World → Prop} {Q : Exit → Act → World → Prop} {E : Prop} (hgd : o.guard = none) (s x : Operand) (t : TypeId)
    (ho : o.op = .call { callee := .builtin .append, args := #[s, x], argTypes := #[t, t] })
    (base : Nat) (e : TypeId) (i : TypeInfo) (z : Value) (size bytes : Nat) (ht : Try.prog.underlying t = some (.slice e)) (hi : Try.prog.info? e = some i) (hz : i.zero = some z)
    (hsize : i.size = size) (hby : i.bytes = bytes) (hzs : z.cells.size = size) (hsz : 0 < size)
    (v : Value) (n : Nat) (xs : List Value) (hs : a.eval s = v) (hown : w.ownsRow base e size v n xs)
    (ad : Addr) (m c : Nat) (news : List Value) (hx : a.eval x = .slice (some ad) m c) (hl : news.length = m * size) (hnews : ∀ j u, news[j]? = some u → w.cell? (ad.add j) = some u) (h1 : ∀ u ∈ news, u.oneCell' = true)
    (h63 : n + m ≤ maxLen) (hbytes : (n + m) * bytes ≤ 140737488355328) (hbase : base ≤ w.heap.size)
    (h : ∀ v' w', w'.ownsRow base e size v' (n + m) (xs ++ news) → w.grownBy w' v.ownBlock → K (a.put o.dst v') w') :
    if Region.wanted o (yielded ops a.tmps) = true then Oper.wp Try.prog o a w K Q else E := by
  have hw : Region.wanted o (yielded ops a.tmps) = true := by simp [Region.wanted, hgd]
  rw [if_pos hw]
  obtain ⟨v', w', hr, h2, h3, _, _⟩ := run_append_own_at (P := Try.prog) w base t o.type e i z size bytes ht hi hz hsize hby hzs hsz v n xs hown ad m c news hl hnews h1 h63 hbytes hbase
  unfold Oper.wp execOp
  simp only [ho, resolve, invoke, builtin, Sem.run_bind, Sem.run_pure, Result.andThen_ok, List.map_toArray, List.map_cons, List.map_nil, hs, hx, hr]
  exact h v' w' h2 h3
/-- A row of the call's own, empty or not. -/
theorem own_any {w : World} {base n : Nat} {v : Value} {l : List UInt8} (h : w.ownsRow base 5 1 v n (l.map byt)) : ∃ A c, v = .slice A n c ∧ SlB w A n l ∧ n ≤ c ∧ c ≤ maxLen := by
  rcases Nat.eq_zero_or_pos n with h0 | h0
  · subst h0
    have hl : l = [] := by have := h.1; simpa using this
    rcases h.2 with ⟨hv, _⟩ | ⟨k, cap, cur, hv, _, _, hc, hm, _⟩
    · exact ⟨none, 0, hv, ⟨by rw [hl]; rfl, .inl rfl⟩, Nat.le_refl _, Nat.zero_le _⟩
    · exact ⟨_, cap, hv, ⟨by rw [hl]; rfl, .inl rfl⟩, hc, hm⟩
  · obtain ⟨k, c, hv, _, hs, hc, hm⟩ := own_all h h0
    exact ⟨_, c, hv, hs, hc, hm⟩
theorem rsum_k {w : World} {b off n : Nat} {l : List UInt8} {A1 : Option Addr} {n1 d1 : Nat} {t : List UInt8} (tz c : Nat) (htz : tz ≤ n) (hn : n ≤ 1000000) (W : World) (h : TW w b off n l A1 n1 d1 t W) :
    Calls Try.prog 18 #[.slice (some ⟨b, off, none⟩) tz c] W fun e w' => e = .returned (.int .u32 (sumN (l.take tz) : Int)) ∧ W = w' :=
  rSum_c _ tz c _ W (h.2.2.1.upTo tz htz) (by omega)
theorem rfour_k {w : World} {b off n : Nat} {l : List UInt8} {A1 : Option Addr} {n1 d1 : Nat} {t : List UInt8} (s : Nat) (hs : s < 4294967296) (W : World) (h : TW w b off n l A1 n1 d1 t W) :
    Calls Try.prog 17 #[.int .u32 (s : Int)] W fun e w' => ∃ A c, e = .returned (.slice A 4 c) ∧ Hid (TW w b off n l A1 n1 d1 t w' ∧ SlB w' A 4 (four s)) :=
  (rfour_c s hs W).mono fun e w' ⟨v, he, hw⟩ => by
    obtain ⟨k, c, hv, _, hs, _⟩ := own_all hw.out.1 (by rw [four_len]; omega)
    rw [hv] at he
    exact ⟨_, c, he, h.below hw.out.2, hs⟩

set_option maxHeartbeats 8000000 in
set_option maxRecDepth 100000 in
theorem rTake_sum (b off n cap : Nat) (c0 : Nat) (l : List UInt8) (w : World) (hn : 1 < n) (hn2 : n ≤ 1000000) (hnc : n ≤ cap) (hcap : cap ≤ maxLen) (hS : SlB w (some ⟨b, off, none⟩) n l) (hc : w.cell? ⟨b, off, none⟩ = some (.int .u8 (c0 : Int))) (hc0 : 0 < c0)
    (hopen : (decide (n < 11) && onB (l.drop 1)) = false) (x : Nat) (t : List UInt8) (hr : rdN (l.drop 1) false 18446744073709551615 = (x, t, false)) (hx : x ≤ 65536) (ht : x + 4 ≤ t.length) (tz : Nat) (htz : tz + t.length = n + x) (hne : ¬ four (sumN (l.take tz)) = (l.drop tz).take 4) :
    Calls Try.prog 8 #[.slice (some ⟨b, off, none⟩) n cap] w (None1 w 30) := by
  have hnI : (0 : Int) < (n : Int) := by omega
  have hnN : 0 < n := by omega
  have hn0 : ((n : Int) == 0) = false := by simp; omega
  have hn2I : (n : Int) ≤ 1000000 := by omega
  have hz : ((c0 : Int) == 0) = false := by simp; omega
  have hncI : (n : Int) ≤ (cap : Int) := by omega
  have hcapI : (cap : Int) ≤ 9223372036854775807 := by unfold maxLen at hcap; omega
  have HO : Hid ((decide ((n : Int) < 11) && onB (l.drop 1)) = false) := by
    have e : decide ((n : Int) < 11) = decide (n < 11) := by simp only [decide_eq_decide]; omega
    show _ = _; rw [e]; exact hopen
  have HL := Lib.hid hS.1
  have HSl := Lib.hid hS
  have HCap := Lib.hid hcap
  have HC : Hid (∀ i, i < n → w.cell? ⟨b, off + i, none⟩ = some (byt (l.getD i 0))) := by
    rcases hS.2 with h0 | ⟨b', off', ha, _, hcl⟩
    · omega
    · injection ha with ha
      injection ha with h1 h2 _
      subst h1; subst h2
      exact hcl
  clear hopen hS hcap
  have hcI : (1 : Int) < (cap : Int) := by omega
  have hcN : ¬ cap = 1 := by omega
  have e1 : ((n : Int) - 1).toNat = n - 1 := by omega
  have hq : RR (w.alloc (.cells #[.slice (some ⟨b, off + 1, none⟩) (n - 1) (cap - 1), .bool false] 52)) w.heap.size w.heap.size (l.drop 1) false := by
    refine ⟨some ⟨b, off + 1, none⟩, n - 1, cap - 1, heap_alloc_new w _, ?_, by omega, by have := HCap.out; omega, Nat.le_refl _, ?_⟩
    · have := (HSl.out.fr0 (S := fun _ => False) (Fr.of_below ((Below.refl _ w).alloc (Nat.le_refl _) (.cells #[.slice (some ⟨b, off + 1, none⟩) (n - 1) (cap - 1), .bool false] 52))) (fun _ _ _ h => h)).drop 1 (by omega)
      simpa [addr_add] using this
    · intro a ha _
      injection ha with ha
      rw [← ha]
      exact World.block_lt_of_cell? w ⟨b, off + 0, none⟩ (HC.out 0 hnN)
  have HQ := Lib.hid (qNat_c w.heap.size w.heap.size (l.drop 1) false 18446744073709551615 _ hq x t false hr)
  unfold QT at HQ
  rw [show ((18446744073709551615 : Nat) : Int) = 18446744073709551615 from rfl] at HQ
  have HR := Lib.hid hr
  clear hq hr
  have hHS := Lib.hid (fun A1 n1 d1 c W h => rsum_k (w := w) (b := b) (off := off) (n := n) (l := l) (A1 := A1) (n1 := n1) (d1 := d1) (t := t) tz c (by omega) hn2 W h)
  have hHF := Lib.hid (fun A1 n1 d1 W h => rfour_k (w := w) (b := b) (off := off) (n := n) (l := l) (A1 := A1) (n1 := n1) (d1 := d1) (t := t) (sumN (l.take tz)) (sumN_lt _) W h)
  obtain ⟨F, hF⟩ : ∃ F, F = four (sumN (l.take tz)) := ⟨_, rfl⟩
  obtain ⟨D, hD⟩ : ∃ D, D = (l.drop tz).take 4 := ⟨_, rfl⟩
  rw [← hF] at hHF
  obtain ⟨sm, hsm⟩ : ∃ sm, sm = sumN (l.take tz) := ⟨_, rfl⟩
  rw [← hsm] at hHS hHF
  have hMid : Hid (∀ W, SlB W (some ⟨b, off, none⟩) n l → SlB W (some ⟨b, off + tz, none⟩) 4 D) := fun W h => by rw [hD]; exact h.mid tz 4 (by omega)
  have hFD : ¬ F = D := by rw [hF, hD]; exact hne
  clear hF hD hsm
  go_enter Try.func8, Try.ntmps8
  go_wp2_with fail
  go_loop [6, 7] (fun o i => ∃ (k : Nat) (ob : Bool), 1 ≤ k ∧ k ≤ n ∧ i = .int .i64 (k : Int) ∧ o = .bool ob ∧ Hid ((ob && onB (l.drop k)) = false)) (fun _ i => n - (intOf i).toNat)
  case atStart => exact ⟨1, _, by omega, by omega, rfl, rfl, HO.out⟩
  case round =>
    clear HO
    obtain ⟨k, ob, hk1, hk, rfl, rfl, hd⟩ := hrel
    have hk0 : (0 : Int) ≤ (k : Int) := by omega
    by_cases hlt : k < n
    · have hltI : (k : Int) < (n : Int) := by omega
      have p0 : w.cell? ⟨b, off + k, none⟩ = some (.int .u8 ((l.getD k 0).toNat : Int)) := HC.out k hlt
      have HN := Lib.hid (onB_drop l k (by rw [HL.out]; exact hlt))
      have hcb := (l.getD k 0).toNat_lt
      obtain ⟨c, hcc⟩ : ∃ c, c = (l.getD k 0).toNat := ⟨_, rfl⟩
      rw [← hcc] at p0 hcb HN
      clear hcc
      cases ob
      · have hd2 : Hid ((false && onB (l.drop (k + 1))) = false) := by have := hd.out; show _ = _; exact this
        clear hd HN
        go_wp2_with fail
        exact ⟨⟨k + 1, false, by omega, by omega, by go_num, rfl, hd2.out⟩, by simp [intOf]; omega⟩
      · by_cases h128 : c < 128
        · have hI : (c : Int) < 128 := by omega
          have hd2 : Hid ((false && onB (l.drop (k + 1))) = false) := by have := hd.out; rw [HN.out] at this; have e : decide (128 ≤ c) = false := decide_eq_false (by omega); rw [e] at this; show _ = _; exact this
          have dI : decide ((128 : Int) ≤ (c : Int)) = false := decide_eq_false (by omega)
          clear hd HN h128
          go_wp2_with fail
          exact ⟨⟨k + 1, false, by omega, by omega, by go_num, rfl, hd2.out⟩, by simp [intOf]; omega⟩
        · have hI : (128 : Int) ≤ (c : Int) := by omega
          have hd2 : Hid ((true && onB (l.drop (k + 1))) = false) := by have := hd.out; rw [HN.out] at this; have e : decide (128 ≤ c) = true := decide_eq_true (by omega); rw [e] at this; show _ = _; exact this
          clear hd HN h128
          go_wp2_with fail
          exact ⟨⟨k + 1, true, by omega, by omega, by go_num, rfl, hd2.out⟩, by simp [intOf]; omega⟩
    · obtain rfl : n = k := by omega
      have hob : ob = false := by
        have := hd.out
        rw [List.drop_of_length_le (by rw [HL.out]; exact Nat.le_refl _)] at this
        simpa [onB] using this
      subst hob
      clear hd hk hk0 hlt
      go_wp2_with fail
      ((with_reducible refine HQ.out.mono ?_); rintro e w1 ⟨rfl, hd1⟩)
      obtain ⟨A1, n1, d1, hR1⟩ := hd1.out.2
      have hb1 : Hid (Below w.heap.size w w1) := ((Below.refl _ w).alloc (Nat.le_refl _) _).trans (hd1.out.1.below (Nat.le_refl _) (by simp))
      have k0 : w1.cell? ⟨w.heap.size, 0, none⟩ = some (.slice A1 n1 d1) := by rw [cell_of_row _ _ _ _ _ _ hR1.1]; rfl
      have k1 : w1.cell? ⟨w.heap.size, 1, none⟩ = some (.bool false) := by rw [cell_of_row _ _ _ _ _ _ hR1.1]; rfl
      have HR1 := Lib.hid hR1
      clear hd1 HQ hR1
      have hn1 : n1 = t.length := HR1.out.2.1.1.symm
      have htn := HR1.out.2.2.1
      obtain ⟨u, hu⟩ : ∃ u, u = n - n1 := ⟨_, rfl⟩
      have hn1n : n1 ≤ n := by have hb := rdN_bound (l.drop 1) false 18446744073709551615; rw [HR.out] at hb; have h3 := hb.2.2; rw [List.length_drop, HL.out] at h3; simp only at h3; omega
      have hxI : (x : Int) ≤ 65536 := by omega
      have htI : (x : Int) + 4 ≤ (n1 : Int) := by omega
      have hn1I : (n1 : Int) ≤ (n : Int) := by omega
      have r1 : (n : Int) - (n1 : Int) = (u : Int) := by omega
      have r2 : (u : Int) + (x : Int) = (tz : Int) := by omega
      have huI : (u : Int) ≤ 1000000 := by omega
      have htz4 : tz + 4 ≤ n := by omega
      have htzI : (tz : Int) + 4 ≤ (n : Int) := by omega
      have G0 : Hid (TW w b off n l A1 n1 d1 t w1.drew) := ⟨hb1.out.drew, hb1.out.size, HSl.out.fr0 (S := fun _ => False) (Fr.of_below hb1.out.drew) (fun _ _ _ h => h), HR1.out.1, HR1.out.2.1⟩
      have hK1 := G0.out.2.2.1
      have s1 : IntKind.i64.wrap ((tz : Int) + 4 - 4) = (tz : Int) := by rw [IntKind.wrap_i64]; omega
      have s0 : IntKind.i64.wrap (tz : Int) = (tz : Int) := by rw [IntKind.wrap_i64]; omega
      have s2 : (0 : Int) ≤ (tz : Int) := by omega
      have s3 : (tz : Int) ≤ (cap : Int) := by omega
      have s4 : ((tz : Int) + 4).toNat = tz + 4 := by omega
      have s5 : (0 : Int) ≤ (tz : Int) + 4 := by omega
      have s6 : (tz : Int) + 4 ≤ (cap : Int) := by omega
      have s7 : tz + 4 - tz = 4 := by omega
      have s8 : ¬ cap = tz := by omega
      have s9 : ¬ cap - tz = 0 := by omega
      clear hn1 hu htn HR
      go_wp2_with fail
      refine wp_region_held_drew (S := (fun w' => SlB w' (some ⟨b, off, none⟩) n l)) (by kernel_rfl) (by first | (dsimp only; first | exact hK1 | exact hK2) | first | exact hK1 | exact hK2) (fun hHeld => ?_)
      refine wpAnyH_take (i := 0) (oi := ⟨some 69, _, _, _, _, _⟩) (v := ?_) rfl (by kernel_rfl) (by kernel_rfl) (by kernel_rfl) (fun _ _ _ h => h) (Or.inl ⟨by kernel_rfl, ?_⟩) (by assumption) ?_
      rotate_left
      · (intro w hSw; (try dsimp only at hSw); go_simp; try with_reducible rfl)
      (repeat (first | simp only [Act.put] | simp only [List.setIfInBounds_toArray] | simp only [List.set_cons_succ] | simp only [List.set_cons_zero]))
      refine wpAnyH_take (i := 1) (oi := ⟨some 70, _, _, _, _, _⟩) (v := ?_) rfl (by kernel_rfl) (by kernel_rfl) (by kernel_rfl) (fun _ _ _ h => h) (Or.inl ⟨by kernel_rfl, ?_⟩) (by assumption) ?_
      rotate_left
      · (intro w hSw; (try dsimp only at hSw); go_simp; try with_reducible rfl)
      (repeat (first | simp only [Act.put] | simp only [List.setIfInBounds_toArray] | simp only [List.set_cons_succ] | simp only [List.set_cons_zero]))
      refine wpAnyH_take (i := 2) (oi := ⟨some 71, _, _, _, _, _⟩) (v := ?_) rfl (by kernel_rfl) (by kernel_rfl) (by kernel_rfl) (fun _ _ _ h => h) (Or.inl ⟨by kernel_rfl, ?_⟩) (by assumption) ?_
      rotate_left
      · (intro w hSw; (try dsimp only at hSw); go_simp; try with_reducible rfl)
      (repeat (first | simp only [Act.put] | simp only [List.setIfInBounds_toArray] | simp only [List.set_cons_succ] | simp only [List.set_cons_zero]))
      refine wpAnyH_take (i := 3) (oi := ⟨some 72, _, _, _, _, _⟩) (v := ?_) rfl (by kernel_rfl) (by kernel_rfl) (by kernel_rfl) (fun _ _ _ h => h) (Or.inl ⟨by kernel_rfl, ?_⟩) (by assumption) ?_
      rotate_left
      · (intro w hSw; (try dsimp only at hSw); go_simp; try with_reducible rfl)
      (repeat (first | simp only [Act.put] | simp only [List.setIfInBounds_toArray] | simp only [List.set_cons_succ] | simp only [List.set_cons_zero]))
      refine wpAnyH_take (i := 7) (oi := ⟨some 76, _, _, _, _, _⟩) (v := ?_) rfl (by kernel_rfl) (by kernel_rfl) (by kernel_rfl) (fun _ _ _ h => h) (Or.inl ⟨by kernel_rfl, ?_⟩) (by assumption) ?_
      rotate_left
      · (intro w hSw; (try dsimp only at hSw); go_simp; try with_reducible rfl)
      (repeat (first | simp only [Act.put] | simp only [List.setIfInBounds_toArray] | simp only [List.set_cons_succ] | simp only [List.set_cons_zero]))
      refine wpAnyH_take (i := 8) (oi := ⟨some 77, _, _, _, _, _⟩) (v := ?_) rfl (by kernel_rfl) (by kernel_rfl) (by kernel_rfl) (fun _ _ _ h => h) (Or.inl ⟨by kernel_rfl, ?_⟩) (by assumption) ?_
      rotate_left
      · (intro w hSw; (try dsimp only at hSw); go_simp; try with_reducible rfl)
      (repeat (first | simp only [Act.put] | simp only [List.setIfInBounds_toArray] | simp only [List.set_cons_succ] | simp only [List.set_cons_zero]))
      refine wpAnyH_take (i := 9) (oi := ⟨some 78, _, _, _, _, _⟩) (v := ?_) rfl (by kernel_rfl) (by kernel_rfl) (by kernel_rfl) (fun _ _ _ h => h) (Or.inl ⟨by kernel_rfl, ?_⟩) (by assumption) ?_
      rotate_left
      · (intro w hSw; (try dsimp only at hSw); go_simp; try with_reducible rfl)
      (repeat (first | simp only [Act.put] | simp only [List.setIfInBounds_toArray] | simp only [List.set_cons_succ] | simp only [List.set_cons_zero]))
      refine wpAnyH_take (i := 10) (oi := ⟨some 79, _, _, _, _, _⟩) (v := ?_) rfl (by kernel_rfl) (by kernel_rfl) (by kernel_rfl) (fun _ _ _ h => h) (Or.inl ⟨by kernel_rfl, ?_⟩) (by assumption) ?_
      rotate_left
      · (intro w hSw; (try dsimp only at hSw); go_simp; try with_reducible rfl)
      (repeat (first | simp only [Act.put] | simp only [List.setIfInBounds_toArray] | simp only [List.set_cons_succ] | simp only [List.set_cons_zero]))
      refine wpAnyH_take (i := 11) (oi := ⟨some 80, _, _, _, _, _⟩) (v := ?_) rfl (by kernel_rfl) (by kernel_rfl) (by kernel_rfl) (fun _ _ _ h => h) (Or.inl ⟨by kernel_rfl, ?_⟩) (by assumption) ?_
      rotate_left
      · (intro w hSw; (try dsimp only at hSw); go_simp; try with_reducible rfl)
      (repeat (first | simp only [Act.put] | simp only [List.setIfInBounds_toArray] | simp only [List.set_cons_succ] | simp only [List.set_cons_zero]))
      refine wpAnyH_take (i := 12) (oi := ⟨some 81, _, _, _, _, _⟩) (v := ?_) rfl (by kernel_rfl) (by kernel_rfl) (by kernel_rfl) (fun _ _ _ h => h) (Or.inl ⟨by kernel_rfl, ?_⟩) (by assumption) ?_
      rotate_left
      · (intro w hSw; have hcv := conv_str (c := cap - tz) (hMid.out w hSw); (try dsimp only at hSw); go_simp; try with_reducible rfl)
      (repeat (first | simp only [Act.put] | simp only [List.setIfInBounds_toArray] | simp only [List.set_cons_succ] | simp only [List.set_cons_zero]))
      refine wpAnyH_ready (rs := [4]) (by kernel_rfl) (by simp) ?_
      refine AllReadyH.cons (o := ⟨some 73, _, _, _, _, _⟩) rfl (fun K hK => ?_) AllReadyH.nil
      go_simp
      ((with_reducible refine (hHS.out _ _ _ _ _ G0.out).mono ?_); rintro e y1 ⟨rfl, rfl⟩)
      (try go_wp2_with fail)
      refine hK.out _ _ (by first | (dsimp only; first | exact hK1 | exact hK2) | first | exact hK1 | exact hK2 | assumption) (fun hHeld => ?_)
      clear hK K
      (repeat (first | simp only [Act.put] | simp only [List.setIfInBounds_toArray] | simp only [List.set_cons_succ] | simp only [List.set_cons_zero]))
      refine wpAnyH_ready (rs := [5]) (by kernel_rfl) (by simp) ?_
      refine AllReadyH.cons (o := ⟨some 74, _, _, _, _, _⟩) rfl (fun K hK => ?_) AllReadyH.nil
      go_simp
      ((with_reducible refine (hHF.out _ _ _ _ G0.out).mono ?_); rintro e y2 ⟨A2, c2, rfl, G2⟩; have hcv2 := conv_str (c := c2) G2.out.2; have hK2 := G2.out.1.2.2.1; clear G0)
      (try go_wp2_with fail)
      refine hK.out _ _ (by first | (dsimp only; first | exact hK1 | exact hK2) | first | exact hK1 | exact hK2 | assumption) (fun hHeld => ?_)
      clear hK K
      (repeat (first | simp only [Act.put] | simp only [List.setIfInBounds_toArray] | simp only [List.set_cons_succ] | simp only [List.set_cons_zero]))
      refine wpAnyH_ready (rs := [6]) (by kernel_rfl) (by simp) ?_
      refine AllReadyH.cons (o := ⟨some 75, _, _, _, _, _⟩) rfl (fun K hK => ?_) AllReadyH.nil
      go_simp
      refine hK.out _ _ (by first | (dsimp only; first | exact hK1 | exact hK2) | first | exact hK1 | exact hK2 | assumption) (fun hHeld => ?_)
      clear hK K
      (repeat (first | simp only [Act.put] | simp only [List.setIfInBounds_toArray] | simp only [List.set_cons_succ] | simp only [List.set_cons_zero]))
      refine wpAnyH_take (i := 13) (oi := ⟨some 82, _, _, _, _, _⟩) (v := ?_) rfl (by kernel_rfl) (by kernel_rfl) (by kernel_rfl) (fun _ _ _ h => h) (Or.inl ⟨by kernel_rfl, ?_⟩) (by assumption) ?_
      rotate_left
      · (intro w hSw; (try dsimp only at hSw); go_simp; try with_reducible rfl)
      (repeat (first | simp only [Act.put] | simp only [List.setIfInBounds_toArray] | simp only [List.set_cons_succ] | simp only [List.set_cons_zero]))
      refine wpAnyH_done (by kernel_rfl) ?_ _
      have HB := Lib.hid G2.out.1.1
      have f4 : (F == D) = false := beq_eq_false_iff_ne.2 hFD
      have f7 : (!(F == D)) = true := by rw [f4]; rfl
      clear hHeld G2 hcv2 hK1 hK2 s0 s1 s2 s3 s4 s5 s6 s7 s8 s9 r1 r2
      go_wp2_with fail
      refine bodyPost_ret (v := .tuple #[.int .u8 0, .slice none 0 0, .int .i64 0, .int .i64 30]) (by simp [results, Try.results8, go_sem]) rfl ⟨rfl, HB⟩
      exact absurd ‹(!(F == D)) = false› (by rw [f4]; decide)

set_option maxHeartbeats 8000000 in
set_option maxRecDepth 100000 in
theorem rTake_ok (b off n cap : Nat) (c0 : Nat) (l : List UInt8) (w : World) (hn : 1 < n) (hn2 : n ≤ 1000000) (hnc : n ≤ cap) (hcap : cap ≤ maxLen) (hS : SlB w (some ⟨b, off, none⟩) n l) (hc : w.cell? ⟨b, off, none⟩ = some (.int .u8 (c0 : Int))) (hc0 : 0 < c0)
    (hopen : (decide (n < 11) && onB (l.drop 1)) = false) (x : Nat) (t : List UInt8) (hr : rdN (l.drop 1) false 18446744073709551615 = (x, t, false)) (hx : x ≤ 65536) (ht : x + 4 ≤ t.length) (tz : Nat) (htz : tz + t.length = n + x) (heq : four (sumN (l.take tz)) = (l.drop tz).take 4) :
    Calls Try.prog 8 #[.slice (some ⟨b, off, none⟩) n cap] w fun e w' => ∃ A c, e = .returned (.tuple #[.int .u8 (c0 : Int), .slice A x c, .int .i64 ((tz : Int) + 4), .int .i64 0]) ∧ Hid (SlB w' A x (t.take x) ∧ Below w.heap.size w w' ∧ x ≤ c ∧ c ≤ maxLen) := by
  have hnI : (0 : Int) < (n : Int) := by omega
  have hnN : 0 < n := by omega
  have hn0 : ((n : Int) == 0) = false := by simp; omega
  have hn2I : (n : Int) ≤ 1000000 := by omega
  have hz : ((c0 : Int) == 0) = false := by simp; omega
  have hncI : (n : Int) ≤ (cap : Int) := by omega
  have hcapI : (cap : Int) ≤ 9223372036854775807 := by unfold maxLen at hcap; omega
  have HO : Hid ((decide ((n : Int) < 11) && onB (l.drop 1)) = false) := by
    have e : decide ((n : Int) < 11) = decide (n < 11) := by simp only [decide_eq_decide]; omega
    show _ = _; rw [e]; exact hopen
  have HL := Lib.hid hS.1
  have HSl := Lib.hid hS
  have HCap := Lib.hid hcap
  have HC : Hid (∀ i, i < n → w.cell? ⟨b, off + i, none⟩ = some (byt (l.getD i 0))) := by
    rcases hS.2 with h0 | ⟨b', off', ha, _, hcl⟩
    · omega
    · injection ha with ha
      injection ha with h1 h2 _
      subst h1; subst h2
      exact hcl
  clear hopen hS hcap
  have hcI : (1 : Int) < (cap : Int) := by omega
  have hcN : ¬ cap = 1 := by omega
  have e1 : ((n : Int) - 1).toNat = n - 1 := by omega
  have hq : RR (w.alloc (.cells #[.slice (some ⟨b, off + 1, none⟩) (n - 1) (cap - 1), .bool false] 52)) w.heap.size w.heap.size (l.drop 1) false := by
    refine ⟨some ⟨b, off + 1, none⟩, n - 1, cap - 1, heap_alloc_new w _, ?_, by omega, by have := HCap.out; omega, Nat.le_refl _, ?_⟩
    · have := (HSl.out.fr0 (S := fun _ => False) (Fr.of_below ((Below.refl _ w).alloc (Nat.le_refl _) (.cells #[.slice (some ⟨b, off + 1, none⟩) (n - 1) (cap - 1), .bool false] 52))) (fun _ _ _ h => h)).drop 1 (by omega)
      simpa [addr_add] using this
    · intro a ha _
      injection ha with ha
      rw [← ha]
      exact World.block_lt_of_cell? w ⟨b, off + 0, none⟩ (HC.out 0 hnN)
  have HQ := Lib.hid (qNat_c w.heap.size w.heap.size (l.drop 1) false 18446744073709551615 _ hq x t false hr)
  unfold QT at HQ
  rw [show ((18446744073709551615 : Nat) : Int) = 18446744073709551615 from rfl] at HQ
  have HR := Lib.hid hr
  clear hq hr
  have hHS := Lib.hid (fun A1 n1 d1 c W h => rsum_k (w := w) (b := b) (off := off) (n := n) (l := l) (A1 := A1) (n1 := n1) (d1 := d1) (t := t) tz c (by omega) hn2 W h)
  have hHF := Lib.hid (fun A1 n1 d1 W h => rfour_k (w := w) (b := b) (off := off) (n := n) (l := l) (A1 := A1) (n1 := n1) (d1 := d1) (t := t) (sumN (l.take tz)) (sumN_lt _) W h)
  obtain ⟨F, hF⟩ : ∃ F, F = four (sumN (l.take tz)) := ⟨_, rfl⟩
  obtain ⟨D, hD⟩ : ∃ D, D = (l.drop tz).take 4 := ⟨_, rfl⟩
  rw [← hF] at hHF
  obtain ⟨sm, hsm⟩ : ∃ sm, sm = sumN (l.take tz) := ⟨_, rfl⟩
  rw [← hsm] at hHS hHF
  have hMid : Hid (∀ W, SlB W (some ⟨b, off, none⟩) n l → SlB W (some ⟨b, off + tz, none⟩) 4 D) := fun W h => by rw [hD]; exact h.mid tz 4 (by omega)
  have hFD : F = D := by rw [hF, hD]; exact heq
  clear hF hD hsm
  go_enter Try.func8, Try.ntmps8
  go_wp2_with fail
  go_loop [6, 7] (fun o i => ∃ (k : Nat) (ob : Bool), 1 ≤ k ∧ k ≤ n ∧ i = .int .i64 (k : Int) ∧ o = .bool ob ∧ Hid ((ob && onB (l.drop k)) = false)) (fun _ i => n - (intOf i).toNat)
  case atStart => exact ⟨1, _, by omega, by omega, rfl, rfl, HO.out⟩
  case round =>
    clear HO
    obtain ⟨k, ob, hk1, hk, rfl, rfl, hd⟩ := hrel
    have hk0 : (0 : Int) ≤ (k : Int) := by omega
    by_cases hlt : k < n
    · have hltI : (k : Int) < (n : Int) := by omega
      have p0 : w.cell? ⟨b, off + k, none⟩ = some (.int .u8 ((l.getD k 0).toNat : Int)) := HC.out k hlt
      have HN := Lib.hid (onB_drop l k (by rw [HL.out]; exact hlt))
      have hcb := (l.getD k 0).toNat_lt
      obtain ⟨c, hcc⟩ : ∃ c, c = (l.getD k 0).toNat := ⟨_, rfl⟩
      rw [← hcc] at p0 hcb HN
      clear hcc
      cases ob
      · have hd2 : Hid ((false && onB (l.drop (k + 1))) = false) := by have := hd.out; show _ = _; exact this
        clear hd HN
        go_wp2_with fail
        exact ⟨⟨k + 1, false, by omega, by omega, by go_num, rfl, hd2.out⟩, by simp [intOf]; omega⟩
      · by_cases h128 : c < 128
        · have hI : (c : Int) < 128 := by omega
          have hd2 : Hid ((false && onB (l.drop (k + 1))) = false) := by have := hd.out; rw [HN.out] at this; have e : decide (128 ≤ c) = false := decide_eq_false (by omega); rw [e] at this; show _ = _; exact this
          have dI : decide ((128 : Int) ≤ (c : Int)) = false := decide_eq_false (by omega)
          clear hd HN h128
          go_wp2_with fail
          exact ⟨⟨k + 1, false, by omega, by omega, by go_num, rfl, hd2.out⟩, by simp [intOf]; omega⟩
        · have hI : (128 : Int) ≤ (c : Int) := by omega
          have hd2 : Hid ((true && onB (l.drop (k + 1))) = false) := by have := hd.out; rw [HN.out] at this; have e : decide (128 ≤ c) = true := decide_eq_true (by omega); rw [e] at this; show _ = _; exact this
          clear hd HN h128
          go_wp2_with fail
          exact ⟨⟨k + 1, true, by omega, by omega, by go_num, rfl, hd2.out⟩, by simp [intOf]; omega⟩
    · obtain rfl : n = k := by omega
      have hob : ob = false := by
        have := hd.out
        rw [List.drop_of_length_le (by rw [HL.out]; exact Nat.le_refl _)] at this
        simpa [onB] using this
      subst hob
      clear hd hk hk0 hlt
      go_wp2_with fail
      ((with_reducible refine HQ.out.mono ?_); rintro e w1 ⟨rfl, hd1⟩)
      obtain ⟨A1, n1, d1, hR1⟩ := hd1.out.2
      have hb1 : Hid (Below w.heap.size w w1) := ((Below.refl _ w).alloc (Nat.le_refl _) _).trans (hd1.out.1.below (Nat.le_refl _) (by simp))
      have k0 : w1.cell? ⟨w.heap.size, 0, none⟩ = some (.slice A1 n1 d1) := by rw [cell_of_row _ _ _ _ _ _ hR1.1]; rfl
      have k1 : w1.cell? ⟨w.heap.size, 1, none⟩ = some (.bool false) := by rw [cell_of_row _ _ _ _ _ _ hR1.1]; rfl
      have HR1 := Lib.hid hR1
      clear hd1 HQ hR1
      have hn1 : n1 = t.length := HR1.out.2.1.1.symm
      have htn := HR1.out.2.2.1
      obtain ⟨u, hu⟩ : ∃ u, u = n - n1 := ⟨_, rfl⟩
      have hn1n : n1 ≤ n := by have hb := rdN_bound (l.drop 1) false 18446744073709551615; rw [HR.out] at hb; have h3 := hb.2.2; rw [List.length_drop, HL.out] at h3; simp only at h3; omega
      have hxI : (x : Int) ≤ 65536 := by omega
      have htI : (x : Int) + 4 ≤ (n1 : Int) := by omega
      have hn1I : (n1 : Int) ≤ (n : Int) := by omega
      have r1 : (n : Int) - (n1 : Int) = (u : Int) := by omega
      have r2 : (u : Int) + (x : Int) = (tz : Int) := by omega
      have huI : (u : Int) ≤ 1000000 := by omega
      have htz4 : tz + 4 ≤ n := by omega
      have htzI : (tz : Int) + 4 ≤ (n : Int) := by omega
      have G0 : Hid (TW w b off n l A1 n1 d1 t w1.drew) := ⟨hb1.out.drew, hb1.out.size, HSl.out.fr0 (S := fun _ => False) (Fr.of_below hb1.out.drew) (fun _ _ _ h => h), HR1.out.1, HR1.out.2.1⟩
      have hK1 := G0.out.2.2.1
      have s1 : IntKind.i64.wrap ((tz : Int) + 4 - 4) = (tz : Int) := by rw [IntKind.wrap_i64]; omega
      have s0 : IntKind.i64.wrap (tz : Int) = (tz : Int) := by rw [IntKind.wrap_i64]; omega
      have s2 : (0 : Int) ≤ (tz : Int) := by omega
      have s3 : (tz : Int) ≤ (cap : Int) := by omega
      have s4 : ((tz : Int) + 4).toNat = tz + 4 := by omega
      have s5 : (0 : Int) ≤ (tz : Int) + 4 := by omega
      have s6 : (tz : Int) + 4 ≤ (cap : Int) := by omega
      have s7 : tz + 4 - tz = 4 := by omega
      have s8 : ¬ cap = tz := by omega
      have s9 : ¬ cap - tz = 0 := by omega
      clear hn1 hu htn HR
      go_wp2_with fail
      refine wp_region_held_drew (S := (fun w' => SlB w' (some ⟨b, off, none⟩) n l)) (by kernel_rfl) (by first | (dsimp only; first | exact hK1 | exact hK2) | first | exact hK1 | exact hK2) (fun hHeld => ?_)
      refine wpAnyH_take (i := 0) (oi := ⟨some 69, _, _, _, _, _⟩) (v := ?_) rfl (by kernel_rfl) (by kernel_rfl) (by kernel_rfl) (fun _ _ _ h => h) (Or.inl ⟨by kernel_rfl, ?_⟩) (by assumption) ?_
      rotate_left
      · (intro w hSw; (try dsimp only at hSw); go_simp; try with_reducible rfl)
      (repeat (first | simp only [Act.put] | simp only [List.setIfInBounds_toArray] | simp only [List.set_cons_succ] | simp only [List.set_cons_zero]))
      refine wpAnyH_take (i := 1) (oi := ⟨some 70, _, _, _, _, _⟩) (v := ?_) rfl (by kernel_rfl) (by kernel_rfl) (by kernel_rfl) (fun _ _ _ h => h) (Or.inl ⟨by kernel_rfl, ?_⟩) (by assumption) ?_
      rotate_left
      · (intro w hSw; (try dsimp only at hSw); go_simp; try with_reducible rfl)
      (repeat (first | simp only [Act.put] | simp only [List.setIfInBounds_toArray] | simp only [List.set_cons_succ] | simp only [List.set_cons_zero]))
      refine wpAnyH_take (i := 2) (oi := ⟨some 71, _, _, _, _, _⟩) (v := ?_) rfl (by kernel_rfl) (by kernel_rfl) (by kernel_rfl) (fun _ _ _ h => h) (Or.inl ⟨by kernel_rfl, ?_⟩) (by assumption) ?_
      rotate_left
      · (intro w hSw; (try dsimp only at hSw); go_simp; try with_reducible rfl)
      (repeat (first | simp only [Act.put] | simp only [List.setIfInBounds_toArray] | simp only [List.set_cons_succ] | simp only [List.set_cons_zero]))
      refine wpAnyH_take (i := 3) (oi := ⟨some 72, _, _, _, _, _⟩) (v := ?_) rfl (by kernel_rfl) (by kernel_rfl) (by kernel_rfl) (fun _ _ _ h => h) (Or.inl ⟨by kernel_rfl, ?_⟩) (by assumption) ?_
      rotate_left
      · (intro w hSw; (try dsimp only at hSw); go_simp; try with_reducible rfl)
      (repeat (first | simp only [Act.put] | simp only [List.setIfInBounds_toArray] | simp only [List.set_cons_succ] | simp only [List.set_cons_zero]))
      refine wpAnyH_take (i := 7) (oi := ⟨some 76, _, _, _, _, _⟩) (v := ?_) rfl (by kernel_rfl) (by kernel_rfl) (by kernel_rfl) (fun _ _ _ h => h) (Or.inl ⟨by kernel_rfl, ?_⟩) (by assumption) ?_
      rotate_left
      · (intro w hSw; (try dsimp only at hSw); go_simp; try with_reducible rfl)
      (repeat (first | simp only [Act.put] | simp only [List.setIfInBounds_toArray] | simp only [List.set_cons_succ] | simp only [List.set_cons_zero]))
      refine wpAnyH_take (i := 8) (oi := ⟨some 77, _, _, _, _, _⟩) (v := ?_) rfl (by kernel_rfl) (by kernel_rfl) (by kernel_rfl) (fun _ _ _ h => h) (Or.inl ⟨by kernel_rfl, ?_⟩) (by assumption) ?_
      rotate_left
      · (intro w hSw; (try dsimp only at hSw); go_simp; try with_reducible rfl)
      (repeat (first | simp only [Act.put] | simp only [List.setIfInBounds_toArray] | simp only [List.set_cons_succ] | simp only [List.set_cons_zero]))
      refine wpAnyH_take (i := 9) (oi := ⟨some 78, _, _, _, _, _⟩) (v := ?_) rfl (by kernel_rfl) (by kernel_rfl) (by kernel_rfl) (fun _ _ _ h => h) (Or.inl ⟨by kernel_rfl, ?_⟩) (by assumption) ?_
      rotate_left
      · (intro w hSw; (try dsimp only at hSw); go_simp; try with_reducible rfl)
      (repeat (first | simp only [Act.put] | simp only [List.setIfInBounds_toArray] | simp only [List.set_cons_succ] | simp only [List.set_cons_zero]))
      refine wpAnyH_take (i := 10) (oi := ⟨some 79, _, _, _, _, _⟩) (v := ?_) rfl (by kernel_rfl) (by kernel_rfl) (by kernel_rfl) (fun _ _ _ h => h) (Or.inl ⟨by kernel_rfl, ?_⟩) (by assumption) ?_
      rotate_left
      · (intro w hSw; (try dsimp only at hSw); go_simp; try with_reducible rfl)
      (repeat (first | simp only [Act.put] | simp only [List.setIfInBounds_toArray] | simp only [List.set_cons_succ] | simp only [List.set_cons_zero]))
      refine wpAnyH_take (i := 11) (oi := ⟨some 80, _, _, _, _, _⟩) (v := ?_) rfl (by kernel_rfl) (by kernel_rfl) (by kernel_rfl) (fun _ _ _ h => h) (Or.inl ⟨by kernel_rfl, ?_⟩) (by assumption) ?_
      rotate_left
      · (intro w hSw; (try dsimp only at hSw); go_simp; try with_reducible rfl)
      (repeat (first | simp only [Act.put] | simp only [List.setIfInBounds_toArray] | simp only [List.set_cons_succ] | simp only [List.set_cons_zero]))
      refine wpAnyH_take (i := 12) (oi := ⟨some 81, _, _, _, _, _⟩) (v := ?_) rfl (by kernel_rfl) (by kernel_rfl) (by kernel_rfl) (fun _ _ _ h => h) (Or.inl ⟨by kernel_rfl, ?_⟩) (by assumption) ?_
      rotate_left
      · (intro w hSw; have hcv := conv_str (c := cap - tz) (hMid.out w hSw); (try dsimp only at hSw); go_simp; try with_reducible rfl)
      (repeat (first | simp only [Act.put] | simp only [List.setIfInBounds_toArray] | simp only [List.set_cons_succ] | simp only [List.set_cons_zero]))
      refine wpAnyH_ready (rs := [4]) (by kernel_rfl) (by simp) ?_
      refine AllReadyH.cons (o := ⟨some 73, _, _, _, _, _⟩) rfl (fun K hK => ?_) AllReadyH.nil
      go_simp
      ((with_reducible refine (hHS.out _ _ _ _ _ G0.out).mono ?_); rintro e y1 ⟨rfl, rfl⟩)
      (try go_wp2_with fail)
      refine hK.out _ _ (by first | (dsimp only; first | exact hK1 | exact hK2) | first | exact hK1 | exact hK2 | assumption) (fun hHeld => ?_)
      clear hK K
      (repeat (first | simp only [Act.put] | simp only [List.setIfInBounds_toArray] | simp only [List.set_cons_succ] | simp only [List.set_cons_zero]))
      refine wpAnyH_ready (rs := [5]) (by kernel_rfl) (by simp) ?_
      refine AllReadyH.cons (o := ⟨some 74, _, _, _, _, _⟩) rfl (fun K hK => ?_) AllReadyH.nil
      go_simp
      ((with_reducible refine (hHF.out _ _ _ _ G0.out).mono ?_); rintro e y2 ⟨A2, c2, rfl, G2⟩; have hcv2 := conv_str (c := c2) G2.out.2; have hK2 := G2.out.1.2.2.1; clear G0)
      (try go_wp2_with fail)
      refine hK.out _ _ (by first | (dsimp only; first | exact hK1 | exact hK2) | first | exact hK1 | exact hK2 | assumption) (fun hHeld => ?_)
      clear hK K
      (repeat (first | simp only [Act.put] | simp only [List.setIfInBounds_toArray] | simp only [List.set_cons_succ] | simp only [List.set_cons_zero]))
      refine wpAnyH_ready (rs := [6]) (by kernel_rfl) (by simp) ?_
      refine AllReadyH.cons (o := ⟨some 75, _, _, _, _, _⟩) rfl (fun K hK => ?_) AllReadyH.nil
      go_simp
      refine hK.out _ _ (by first | (dsimp only; first | exact hK1 | exact hK2) | first | exact hK1 | exact hK2 | assumption) (fun hHeld => ?_)
      clear hK K
      (repeat (first | simp only [Act.put] | simp only [List.setIfInBounds_toArray] | simp only [List.set_cons_succ] | simp only [List.set_cons_zero]))
      refine wpAnyH_take (i := 13) (oi := ⟨some 82, _, _, _, _, _⟩) (v := ?_) rfl (by kernel_rfl) (by kernel_rfl) (by kernel_rfl) (fun _ _ _ h => h) (Or.inl ⟨by kernel_rfl, ?_⟩) (by assumption) ?_
      rotate_left
      · (intro w hSw; (try dsimp only at hSw); go_simp; try with_reducible rfl)
      (repeat (first | simp only [Act.put] | simp only [List.setIfInBounds_toArray] | simp only [List.set_cons_succ] | simp only [List.set_cons_zero]))
      refine wpAnyH_done (by kernel_rfl) ?_ _
      subst hFD
      have HB := Lib.hid G2.out.1
      clear hHeld hcv2 hK1 hK2 s0 s1 s2 s3 s4 s5 s6 s7 s8 s9 r1 r2
      obtain ⟨b2, o2, rfl⟩ : ∃ b2 o2, A1 = some ⟨b2, o2, none⟩ := by
        rcases HB.out.2.2.2.2.2 with h0 | ⟨b2, o2, h, _⟩
        · omega
        · exact ⟨b2, o2, h⟩
      have hwb : b < w.heap.size := World.block_lt_of_cell? w ⟨b, off, none⟩ hc
      have ka : ∀ W, Below w.heap.size w W → W.cell? ⟨b, off, none⟩ = some (.int .u8 (c0 : Int)) := fun W h => by rw [h.cell (p := ⟨b, off, none⟩) hwb]; exact hc
      have kb : ∀ W : World, W.heap[w.heap.size]? = some (.cells #[.slice (some ⟨b2, o2, none⟩) n1 d1, .bool false] 52 (0, 0)) → W.cell? ⟨w.heap.size, 0, none⟩ = some (.slice (some ⟨b2, o2, none⟩) n1 d1) := fun W h => by rw [cell_of_row _ _ _ _ _ _ h]; rfl
      have G3 : Hid (TW w b off n l (some ⟨b2, o2, none⟩) n1 d1 t (y2.drew.alloc (.cells #[] 5))) := HB.out.drew.below ((Below.refl _ _).alloc (Nat.le_refl _) _)
      have ka0 : y2.drew.cell? ⟨b, off, none⟩ = some (.int .u8 (c0 : Int)) := ka _ HB.out.drew.1
      have kb0 : y2.drew.cell? ⟨w.heap.size, 0, none⟩ = some (.slice (some ⟨b2, o2, none⟩) n1 d1) := kb _ HB.out.drew.2.2.2.1
      have ka1 : (y2.drew.alloc (.cells #[] 5)).cell? ⟨b, off, none⟩ = some (.int .u8 (c0 : Int)) := ka _ G3.out.1
      have kb1 : (y2.drew.alloc (.cells #[] 5)).cell? ⟨w.heap.size, 0, none⟩ = some (.slice (some ⟨b2, o2, none⟩) n1 d1) := kb _ G3.out.2.2.2.1
      have z0 : y2.cell? ⟨b, off, none⟩ = some (.int .u8 (c0 : Int)) := ka _ HB.out.1
      have z1 : y2.cell? ⟨w.heap.size, 0, none⟩ = some (.slice (some ⟨b2, o2, none⟩) n1 d1) := kb _ HB.out.2.2.2.1
      have hd1n : n1 ≤ d1 := HR1.out.2.2.1
      have hd1I : (x : Int) ≤ (d1 : Int) := by omega
      have hd1m : (d1 : Int) ≤ 9223372036854775807 := by have := HR1.out.2.2.2.1; unfold maxLen at this; omega
      obtain ⟨i0, hi0, hz0, hz1, hz2⟩ := info_parts info_u8
      have hKK := Lib.hid (And.intro ka kb)
      clear ka kb G2
      have HOw : Hid ((y2.drew.alloc (.cells #[] 5)).ownsRow w.heap.size 5 1 (.slice (some ⟨y2.heap.size, 0, none⟩) 0 0) 0 []) := World.ownsRow_made y2.drew #[] 0 HB.out.2.1 (by unfold maxLen; omega) (by simp)
      have Hlx : Hid ((t.take x).length = x) := by
        show _ = _
        have := HB.out.2.2.2.2.1
        rw [List.length_take]; omega
      have HS3 : Hid (w.heap.size ≤ (y2.drew.alloc (.cells #[] 5)).heap.size) := G3.out.2.1
      have HNw : Hid (∀ (j : Nat) (u : Value), ((t.take x).map byt)[j]? = some u → (y2.drew.alloc (.cells #[] 5)).cell? ((⟨b2, o2, none⟩ : Addr).add j) = some u) := by
        have hs := G3.out.2.2.2.2.upTo x (by omega)
        rcases hs.2 with h | ⟨b', off', h, _, hcl⟩
        · intro j u hu
          have hj := (List.getElem?_eq_some_iff.1 hu).1
          rw [List.length_map, Hlx.out] at hj
          omega
        · injection h with h
          rw [h]
          exact SlB.news hs.1 hcl
      have HApp : Hid (∀ (v3 : Value) (w3 : World), w3.ownsRow w.heap.size 5 1 v3 (0 + x) ([] ++ (t.take x).map byt) → (y2.drew.alloc (.cells #[] 5)).grownBy w3 (Value.slice (some ⟨y2.heap.size, 0, none⟩) 0 0).ownBlock →
          Hid (∃ A c, v3 = .slice A x c ∧ SlB w3 A x (t.take x) ∧ Below w.heap.size w w3 ∧ x ≤ c ∧ c ≤ maxLen) ∧ w3.cell? ⟨b, off, none⟩ = some (.int .u8 (c0 : Int)) ∧ w3.cell? ⟨w.heap.size, 0, none⟩ = some (.slice (some ⟨b2, o2, none⟩) n1 d1)) := by
        intro v3 w3 hown hgr
        rw [Nat.zero_add, List.nil_append] at hown
        have hq1 : w.heap.size < y2.heap.size := blk_lt HB.out.2.2.2.1
        have hB3 : Below w.heap.size w w3 := Below.grown G3.out.1 hgr HS3.out (fun j hj => by simp [Value.ownBlock] at hj; omega)
        have hq := hgr.block w.heap.size (by have := blk_lt G3.out.2.2.2.1; exact this) (by simp [Value.ownBlock]; omega)
        obtain ⟨A', c', hv, hs, h1, h2⟩ := own_any hown
        exact ⟨⟨A', c', hv, hs, hB3, h1, h2⟩, hKK.out.1 _ hB3, hKK.out.2 _ (hq.trans G3.out.2.2.2.1)⟩
      go_wp2_with fail
      refine wp_region_held_drew (S := (fun w' => w'.cell? ⟨b, off, none⟩ = some (.int .u8 (c0 : Int)) ∧ w'.cell? ⟨w.heap.size, 0, none⟩ = some (.slice (some ⟨b2, o2, none⟩) n1 d1))) (by kernel_rfl) (by first | (dsimp only; first | exact ⟨ka0, kb0⟩ | exact ⟨ka1, kb1⟩) | first | exact ⟨ka0, kb0⟩ | exact ⟨ka1, kb1⟩) (fun hHeld => ?_)
      refine wpAnyH_take (i := 0) (oi := ⟨some 83, _, _, _, _, _⟩) (v := ?_) rfl (by kernel_rfl) (by kernel_rfl) (by kernel_rfl) (fun _ _ _ h => h) (Or.inl ⟨by kernel_rfl, ?_⟩) (by assumption) ?_
      rotate_left
      · (intro w hSw; (try dsimp only at hSw); go_simp; try with_reducible rfl)
      (repeat (first | simp only [Act.put] | simp only [List.setIfInBounds_toArray] | simp only [List.set_cons_succ] | simp only [List.set_cons_zero]))
      refine wpAnyH_take (i := 1) (oi := ⟨some 84, _, _, _, _, _⟩) (v := ?_) rfl (by kernel_rfl) (by kernel_rfl) (by kernel_rfl) (fun _ _ _ h => h) (Or.inl ⟨by kernel_rfl, ?_⟩) (by assumption) ?_
      rotate_left
      · (intro w hSw; (try dsimp only at hSw); go_simp; try with_reducible rfl)
      (repeat (first | simp only [Act.put] | simp only [List.setIfInBounds_toArray] | simp only [List.set_cons_succ] | simp only [List.set_cons_zero]))
      refine wpAnyH_take (i := 2) (oi := ⟨some 85, _, _, _, _, _⟩) (v := ?_) rfl (by kernel_rfl) (by kernel_rfl) (by kernel_rfl) (fun _ _ _ h => h) (Or.inl ⟨by kernel_rfl, ?_⟩) (by assumption) ?_
      rotate_left
      · (intro w hSw; (try dsimp only at hSw); go_simp; try with_reducible rfl)
      (repeat (first | simp only [Act.put] | simp only [List.setIfInBounds_toArray] | simp only [List.set_cons_succ] | simp only [List.set_cons_zero]))
      refine wpAnyH_take (i := 4) (oi := ⟨some 87, _, _, _, _, _⟩) (v := ?_) rfl (by kernel_rfl) (by kernel_rfl) (by kernel_rfl) (fun _ _ _ h => h) (Or.inl ⟨by kernel_rfl, ?_⟩) (by assumption) ?_
      rotate_left
      · (intro w hSw; (try dsimp only at hSw); go_simp; try with_reducible rfl)
      (repeat (first | simp only [Act.put] | simp only [List.setIfInBounds_toArray] | simp only [List.set_cons_succ] | simp only [List.set_cons_zero]))
      refine wpAnyH_take (i := 5) (oi := ⟨some 88, _, _, _, _, _⟩) (v := ?_) rfl (by kernel_rfl) (by kernel_rfl) (by kernel_rfl) (fun _ _ _ h => h) (Or.inl ⟨by kernel_rfl, ?_⟩) (by assumption) ?_
      rotate_left
      · (intro w hSw; (try dsimp only at hSw); go_simp; try with_reducible rfl)
      (repeat (first | simp only [Act.put] | simp only [List.setIfInBounds_toArray] | simp only [List.set_cons_succ] | simp only [List.set_cons_zero]))
      refine wpAnyH_take (i := 6) (oi := ⟨some 89, _, _, _, _, _⟩) (v := ?_) rfl (by kernel_rfl) (by kernel_rfl) (by kernel_rfl) (fun _ _ _ h => h) (Or.inl ⟨by kernel_rfl, ?_⟩) (by assumption) ?_
      rotate_left
      · (intro w hSw; (try dsimp only at hSw); go_simp; try with_reducible rfl)
      (repeat (first | simp only [Act.put] | simp only [List.setIfInBounds_toArray] | simp only [List.set_cons_succ] | simp only [List.set_cons_zero]))
      refine wpAnyH_take (i := 7) (oi := ⟨some 90, _, _, _, _, _⟩) (v := ?_) rfl (by kernel_rfl) (by kernel_rfl) (by kernel_rfl) (fun _ _ _ h => h) (Or.inl ⟨by kernel_rfl, ?_⟩) (by assumption) ?_
      rotate_left
      · (intro w hSw; (try dsimp only at hSw); go_simp; try with_reducible rfl)
      (repeat (first | simp only [Act.put] | simp only [List.setIfInBounds_toArray] | simp only [List.set_cons_succ] | simp only [List.set_cons_zero]))
      refine wpAnyH_take (i := 8) (oi := ⟨some 91, _, _, _, _, _⟩) (v := ?_) rfl (by kernel_rfl) (by kernel_rfl) (by kernel_rfl) (fun _ _ _ h => h) (Or.inl ⟨by kernel_rfl, ?_⟩) (by assumption) ?_
      rotate_left
      · (intro w hSw; (try dsimp only at hSw); go_simp; try with_reducible rfl)
      (repeat (first | simp only [Act.put] | simp only [List.setIfInBounds_toArray] | simp only [List.set_cons_succ] | simp only [List.set_cons_zero]))
      refine wpAnyH_take (i := 9) (oi := ⟨some 92, _, _, _, _, _⟩) (v := ?_) rfl (by kernel_rfl) (by kernel_rfl) (by kernel_rfl) (fun _ _ _ h => h) (Or.inl ⟨by kernel_rfl, ?_⟩) (by assumption) ?_
      rotate_left
      · (intro w hSw; (try dsimp only at hSw); go_simp; try with_reducible rfl)
      (repeat (first | simp only [Act.put] | simp only [List.setIfInBounds_toArray] | simp only [List.set_cons_succ] | simp only [List.set_cons_zero]))
      refine wpAnyH_take (i := 11) (oi := ⟨some 94, _, _, _, _, _⟩) (v := ?_) rfl (by kernel_rfl) (by kernel_rfl) (by kernel_rfl) (fun _ _ _ h => h) (Or.inl ⟨by kernel_rfl, ?_⟩) (by assumption) ?_
      rotate_left
      · (intro w hSw; (try dsimp only at hSw); go_simp; try with_reducible rfl)
      (repeat (first | simp only [Act.put] | simp only [List.setIfInBounds_toArray] | simp only [List.set_cons_succ] | simp only [List.set_cons_zero]))
      refine wpAnyH_ready (rs := [3]) (by kernel_rfl) (by simp) ?_
      refine AllReadyH.cons (o := ⟨some 86, _, _, _, _, _⟩) rfl (fun K hK => ?_) AllReadyH.nil
      go_simp
      refine hK.out _ _ (by first | (dsimp only; first | exact ⟨ka0, kb0⟩ | exact ⟨ka1, kb1⟩) | first | exact ⟨ka0, kb0⟩ | exact ⟨ka1, kb1⟩ | assumption) (fun hHeld => ?_)
      clear hK K
      (repeat (first | simp only [Act.put] | simp only [List.setIfInBounds_toArray] | simp only [List.set_cons_succ] | simp only [List.set_cons_zero]))
      refine wpAnyH_ready (rs := [10]) (by kernel_rfl) (by simp) ?_
      refine AllReadyH.cons (o := ⟨some 93, _, _, _, _, _⟩) rfl (fun K hK => ?_) AllReadyH.nil
      refine step_append_at rfl _ _ 22 rfl w.heap.size 5 i0 (.int .u8 0) 1 1 Try.underlying22 hi0 hz0 hz1 hz2 rfl (by decide) (.slice (some ⟨y2.heap.size, 0, none⟩) 0 0) 0 [] rfl HOw.out ⟨b2, o2, none⟩ x d1 ((t.take x).map byt) rfl ?a1 HNw.out (byt_one _) ?a2 ?a3 ?a4 ?_
      case a1 => rw [List.length_map, Hlx.out, Nat.mul_one]
      case a2 => unfold maxLen; omega
      case a3 => omega
      case a4 => exact HS3.out
      intro v3 w3 hown hgr
      obtain ⟨HR3, ka2, kb2⟩ := HApp.out v3 w3 hown hgr
      clear hown hgr
      refine hK.out _ _ ⟨ka2, kb2⟩ (fun hHeld => ?_)
      clear hK K
      (repeat (first | simp only [Act.put] | simp only [List.setIfInBounds_toArray] | simp only [List.set_cons_succ] | simp only [List.set_cons_zero]))
      refine wpAnyH_take (i := 12) (oi := ⟨some 2, _, _, _, _, _⟩) (v := ?_) rfl (by kernel_rfl) (by kernel_rfl) (by kernel_rfl) (fun _ _ _ h => h) (Or.inl ⟨by kernel_rfl, ?_⟩) (by assumption) ?_
      rotate_left
      · (intro w hSw; (try dsimp only at hSw); go_simp; try with_reducible rfl)
      (repeat (first | simp only [Act.put] | simp only [List.setIfInBounds_toArray] | simp only [List.set_cons_succ] | simp only [List.set_cons_zero]))
      refine wpAnyH_take (i := 13) (oi := ⟨some 3, _, _, _, _, _⟩) (v := ?_) rfl (by kernel_rfl) (by kernel_rfl) (by kernel_rfl) (fun _ _ _ h => h) (Or.inl ⟨by kernel_rfl, ?_⟩) (by assumption) ?_
      rotate_left
      · (intro w hSw; (try dsimp only at hSw); go_simp; try with_reducible rfl)
      (repeat (first | simp only [Act.put] | simp only [List.setIfInBounds_toArray] | simp only [List.set_cons_succ] | simp only [List.set_cons_zero]))
      refine wpAnyH_take (i := 14) (oi := ⟨some 4, _, _, _, _, _⟩) (v := ?_) rfl (by kernel_rfl) (by kernel_rfl) (by kernel_rfl) (fun _ _ _ h => h) (Or.inl ⟨by kernel_rfl, ?_⟩) (by assumption) ?_
      rotate_left
      · (intro w hSw; (try dsimp only at hSw); go_simp; try with_reducible rfl)
      (repeat (first | simp only [Act.put] | simp only [List.setIfInBounds_toArray] | simp only [List.set_cons_succ] | simp only [List.set_cons_zero]))
      refine wpAnyH_take (i := 15) (oi := ⟨some 5, _, _, _, _, _⟩) (v := ?_) rfl (by kernel_rfl) (by kernel_rfl) (by kernel_rfl) (fun _ _ _ h => h) (Or.inl ⟨by kernel_rfl, ?_⟩) (by assumption) ?_
      rotate_left
      · (intro w hSw; (try dsimp only at hSw); go_simp; try with_reducible rfl)
      (repeat (first | simp only [Act.put] | simp only [List.setIfInBounds_toArray] | simp only [List.set_cons_succ] | simp only [List.set_cons_zero]))
      refine wpAnyH_done (by kernel_rfl) ?_ _
      go_wp2_with fail
      refine bodyPost_ret (v := .tuple #[.int .u8 (c0 : Int), v3, .int .i64 ((tz : Int) + 4), .int .i64 0]) (by simp [results, Try.results8, go_sem]) rfl ?_
      obtain ⟨A3, c3, hv3, hr3⟩ := HR3.out
      exact ⟨A3, c3, by rw [hv3], hr3⟩
end Go.Proofs.Ytgbbckjbpgojaaa
