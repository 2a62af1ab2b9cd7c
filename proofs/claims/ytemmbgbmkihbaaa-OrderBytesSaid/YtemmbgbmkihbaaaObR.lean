/- The reference's bytes of orders. (By mkobr.py.) -/
import Derived.Test.YtemmbgbmkihbaaaObA
import Derived.Laws.OwnMore
namespace Go.Proofs.Ytemmbgbmkihbaaa
open Go.RowKit Go.Sort Go.Lib Go.Shelf

theorem append_bytes {w : World} {ops : Array Oper} {rest : List Oper} {o : Oper} {a : Act} {Q : Exit → Act → World → Prop} (hgd : o.guard = none) (s x : Operand)
    (ho : o.op = .call { callee := .builtin .append, args := #[s, x], argTypes := #[68, 68] })
    (base : Nat) (v : Value) (bs : List UInt8) (hs : a.eval s = v) (hown : w.ownsRow base 5 1 v bs.length (bs.map byt))
    (ad : Addr) (m c : Nat) (l : List UInt8) (hx : a.eval x = .slice (some ad) m c) (HS : SlB w (some ad) m l) (h63 : bs.length + m ≤ 1000000) (hbase : base ≤ w.heap.size)
    (h : ∀ v' w' bs', Hid (bs' = bs ++ l) → w'.ownsRow base 5 1 v' bs'.length (bs'.map byt) → Below base w w' → wpList Try.prog ops Q rest (a.put o.dst v') w') : wpList Try.prog ops Q (o :: rest) a w := by
  obtain ⟨i0, hi0, hz0, hz1, hz2⟩ := info_parts info_u8
  have hl := HS.1
  refine wpList_append_own _ hgd s x _ ho base _ i0 (.int .u8 0) 1 1 Try.underlying68 hi0 hz0 hz1 hz2 rfl (by decide) v bs.length (bs.map byt) hs hown ad m c (l.map byt) hx (by simp [hl]) ?_ (byt_one l) (by unfold maxLen; omega) (by omega) hbase (fun v' w' h1 h2 _ => h v' w' (bs ++ l) rfl ?_ (Below.grown ((Below.refl _ _).mono hbase) h2 hbase (fun k hk => (hown.lt k hk).1)))
  · rcases HS.2 with h0 | ⟨b, off, e, _, hc⟩
    · intro j u hu
      have := (List.getElem?_eq_some_iff.1 hu).1
      simp at this
      omega
    · injection e with e
      subst e
      exact SlB.news hl hc
  · rw [List.length_append, List.map_append, hl]; exact h1
theorem newB_slb {w0 w : World} {q n c : Nat} {l : List UInt8} (h : Co.NewB w0 w q n c l) : SlB w (some ⟨q, 0, none⟩) n l := h.2.1
set_option maxHeartbeats 4000000 in
set_option maxRecDepth 100000 in
theorem rbytes_c (A : Option Addr) (n c : Nat) (L : List Od) (w : World) (H : Ods w A n L) (hn : n ≤ 100) : Calls Try.prog 35 #[.slice A n c] w (BytesIs w (ordsB L)) := by
  have HO : Aside (Ods w A n L) := H
  have HLn := Lib.hid H.1
  have HOk := Lib.hid H.2.2.1
  have HN := Lib.hid (fun (m : Nat) (hm : m < 2 ^ 64) W => Co.refNat_c m hm W)
  have HI := Lib.hid (fun (i : Int) h0 h1 W => Co.refInt_c i h0 h1 W)
  have hcv : IntKind.u64.wrap (n : Int) = (n : Int) := by rw [IntKind.wrap_u64]; omega
  have H1 := Lib.hid (HN.out n (by omega) w)
  clear H
  go_enter Try.func35, Try.ntmps35
  go_wp2_with fail
  refine (H1.out).mono ?_
  rintro e w1 ⟨q1, c1, rfl, h1⟩
  have B1 : Hid (Below w.heap.size w w1) := h1.out.2.2.2
  have O1 : w1.ownsRow w.heap.size 5 1 (.slice (some ⟨q1, 0, none⟩) (Co.natB n).length c1) (Co.natB n).length ((Co.natB n).map byt) := h1.out.2.2.1
  have hz := Lib.hid (Co.natB_len10 (n := n) (by omega))
  clear h1 H1
  go_wp2_with fail
  go_loopg [3, 4] n (fun kx v s4 wr => ∃ (i : Nat) (bs : List UInt8), s4 = .int .i64 i ∧ i ≤ n ∧ n - i ≤ kx ∧ Hid (bs = Co.natB n ++ (L.take i).flatMap ordB) ∧ wr.ownsRow w.heap.size 5 1 v bs.length (bs.map byt) ∧ Hid (Below w.heap.size w wr))
  case atStart => exact ⟨0, Co.natB n, rfl, by omega, by omega, Lib.hid (by simp), O1, B1⟩
  case round =>
    clear O1 B1
    obtain ⟨i, bs0, rfl, hin, hkx, HB, hown, hd⟩ := hrel
    by_cases hlt : i < n
    · have hltz : (i : Int) < (n : Int) := by omega
      have HF := Lib.hid (flat_snoc (L := L) (k := i) (by rw [HLn.out]; exact hlt))
      have hlen0 : bs0.length ≤ 10000 := by
        have a := take_len HOk.out i
        have b := hz.out
        rw [HLn.out] at a
        rw [HB.out, List.length_append]
        omega
      obtain ⟨x, ex⟩ : ∃ x, L[i]! = x := ⟨_, rfl⟩
      have hok : Hid (x.ok w) := Lib.hid (by
        rw [← ex, getElem!_pos L i (by rw [HLn.out]; exact hlt)]
        exact HOk.out _ (List.getElem_mem _))
      rw [ex] at HF
      have EX := Lib.hid ex
      clear ex
      -- id
      have h1 := (HO.out.below hd.out).2.2.2
      rcases h1 with h1 | ⟨b, off, hA, _, hc⟩
      · omega
      have hx := hc i hlt
      rw [EX.out] at hx
      clear hc
      subst hA
      obtain ⟨xx, _, _, _, _, _⟩ := hx
      have hC := HN.out x.id.toNat (by have := hok.out.1; omega) wr
      rw [Int.toNat_of_nonneg hok.out.1.1] at hC
      have hlen : (Co.natB x.id.toNat).length ≤ 10 := Co.natB_len10 (by have := hok.out.1; omega)
      obtain ⟨l0, hl0⟩ : ∃ l, l = Co.natB x.id.toNat := ⟨_, rfl⟩
      rw [← hl0] at hC hlen
      have HL0 := Lib.hid hl0
      clear hl0
      have HC := Lib.hid hC
      clear hC
      go_wp2_with fail
      refine HC.out.mono ?_
      rintro e w1 ⟨q, c, rfl, hq⟩
      clear HC xx
      have hs := newB_slb hq.out
      have hown' := own_fr (S := fun _ => False) hown (Fr.of_below hq.out.2.2.2) (fun _ _ h => h)
      have hd' : Hid (Below w.heap.size w w1) := hd.out.trans (hq.out.2.2.2.mono hd.out.size)
      have hsz := hd'.out.size
      clear hown hq hd
      go_wp2_with (at_builtin; refine append_bytes rfl _ _ rfl w.heap.size _ bs0 rfl hown' ⟨q, 0, none⟩ _ _ l0 rfl hs (by omega) hsz ?_)
      clear hs hown'
      intro v1 u1 bs1 HB1 hown b1
      have hd : Hid (Below w.heap.size w u1) := hd'.out.trans b1
      clear hd' b1 hsz
      have hlen1 : bs1.length ≤ 10010 := by rw [HB1.out, List.length_append]; omega
      clear hlen hlen0
      -- acc
      have h1 := (HO.out.below hd.out).2.2.2
      rcases h1 with h1 | ⟨b, off, hA, _, hc⟩
      · omega
      have hx := hc i hlt
      rw [EX.out] at hx
      clear hc
      injection hA with hA
      injection hA with hA1 hA2
      subst hA1; subst hA2
      obtain ⟨_, xx, _, _, _, _⟩ := hx
      have hC := HI.out x.acc hok.out.2.1.1 hok.out.2.1.2 u1
      have hlen : (Co.natB (Co.fz x.acc)).length ≤ 10 := Co.natB_len10 (Co.fz_lt hok.out.2.1.1 hok.out.2.1.2)
      obtain ⟨l1, hl1⟩ : ∃ l, l = Co.natB (Co.fz x.acc) := ⟨_, rfl⟩
      rw [← hl1] at hC hlen
      have HL1 := Lib.hid hl1
      clear hl1
      have HC := Lib.hid hC
      clear hC
      go_wp2_with fail
      refine HC.out.mono ?_
      rintro e w2 ⟨q, c, rfl, hq⟩
      clear HC xx
      have hs := newB_slb hq.out
      have hown' := own_fr (S := fun _ => False) hown (Fr.of_below hq.out.2.2.2) (fun _ _ h => h)
      have hd' : Hid (Below w.heap.size w w2) := hd.out.trans (hq.out.2.2.2.mono hd.out.size)
      have hsz := hd'.out.size
      clear hown hq hd
      go_wp2_with (at_builtin; refine append_bytes rfl _ _ rfl w.heap.size _ bs1 rfl hown' ⟨q, 0, none⟩ _ _ l1 rfl hs (by omega) hsz ?_)
      clear hs hown'
      intro v2 u2 bs2 HB2 hown b2
      have hd : Hid (Below w.heap.size w u2) := hd'.out.trans b2
      clear hd' b2 hsz
      have hlen2 : bs2.length ≤ 10020 := by rw [HB2.out, List.length_append]; omega
      clear hlen hlen1
      -- side
      have h1 := (HO.out.below hd.out).2.2.2
      rcases h1 with h1 | ⟨b, off, hA, _, hc⟩
      · omega
      have hx := hc i hlt
      rw [EX.out] at hx
      clear hc
      injection hA with hA
      injection hA with hA1 hA2
      subst hA1; subst hA2
      obtain ⟨_, _, xx, _, _, _⟩ := hx
      have hC := HI.out x.side hok.out.2.2.1.1 hok.out.2.2.1.2 u2
      have hlen : (Co.natB (Co.fz x.side)).length ≤ 10 := Co.natB_len10 (Co.fz_lt hok.out.2.2.1.1 hok.out.2.2.1.2)
      obtain ⟨l2, hl2⟩ : ∃ l, l = Co.natB (Co.fz x.side) := ⟨_, rfl⟩
      rw [← hl2] at hC hlen
      have HL2 := Lib.hid hl2
      clear hl2
      have HC := Lib.hid hC
      clear hC
      go_wp2_with fail
      refine HC.out.mono ?_
      rintro e w3 ⟨q, c, rfl, hq⟩
      clear HC xx
      have hs := newB_slb hq.out
      have hown' := own_fr (S := fun _ => False) hown (Fr.of_below hq.out.2.2.2) (fun _ _ h => h)
      have hd' : Hid (Below w.heap.size w w3) := hd.out.trans (hq.out.2.2.2.mono hd.out.size)
      have hsz := hd'.out.size
      clear hown hq hd
      go_wp2_with (at_builtin; refine append_bytes rfl _ _ rfl w.heap.size _ bs2 rfl hown' ⟨q, 0, none⟩ _ _ l2 rfl hs (by omega) hsz ?_)
      clear hs hown'
      intro v3 u3 bs3 HB3 hown b3
      have hd : Hid (Below w.heap.size w u3) := hd'.out.trans b3
      clear hd' b3 hsz
      have hlen3 : bs3.length ≤ 10030 := by rw [HB3.out, List.length_append]; omega
      clear hlen hlen2
      -- price
      have h1 := (HO.out.below hd.out).2.2.2
      rcases h1 with h1 | ⟨b, off, hA, _, hc⟩
      · omega
      have hx := hc i hlt
      rw [EX.out] at hx
      clear hc
      injection hA with hA
      injection hA with hA1 hA2
      subst hA1; subst hA2
      obtain ⟨_, _, _, xx, _, _⟩ := hx
      have hC := HI.out x.price hok.out.2.2.2.1.1 hok.out.2.2.2.1.2 u3
      have hlen : (Co.natB (Co.fz x.price)).length ≤ 10 := Co.natB_len10 (Co.fz_lt hok.out.2.2.2.1.1 hok.out.2.2.2.1.2)
      obtain ⟨l3, hl3⟩ : ∃ l, l = Co.natB (Co.fz x.price) := ⟨_, rfl⟩
      rw [← hl3] at hC hlen
      have HL3 := Lib.hid hl3
      clear hl3
      have HC := Lib.hid hC
      clear hC
      go_wp2_with fail
      refine HC.out.mono ?_
      rintro e w4 ⟨q, c, rfl, hq⟩
      clear HC xx
      have hs := newB_slb hq.out
      have hown' := own_fr (S := fun _ => False) hown (Fr.of_below hq.out.2.2.2) (fun _ _ h => h)
      have hd' : Hid (Below w.heap.size w w4) := hd.out.trans (hq.out.2.2.2.mono hd.out.size)
      have hsz := hd'.out.size
      clear hown hq hd
      go_wp2_with (at_builtin; refine append_bytes rfl _ _ rfl w.heap.size _ bs3 rfl hown' ⟨q, 0, none⟩ _ _ l3 rfl hs (by omega) hsz ?_)
      clear hs hown'
      intro v4 u4 bs4 HB4 hown b4
      have hd : Hid (Below w.heap.size w u4) := hd'.out.trans b4
      clear hd' b4 hsz
      have hlen4 : bs4.length ≤ 10040 := by rw [HB4.out, List.length_append]; omega
      clear hlen hlen3
      -- qty
      have h1 := (HO.out.below hd.out).2.2.2
      rcases h1 with h1 | ⟨b, off, hA, _, hc⟩
      · omega
      have hx := hc i hlt
      rw [EX.out] at hx
      clear hc
      injection hA with hA
      injection hA with hA1 hA2
      subst hA1; subst hA2
      obtain ⟨_, _, _, _, xx, _⟩ := hx
      have hC := HI.out x.qty hok.out.2.2.2.2.1.1 hok.out.2.2.2.2.1.2 u4
      have hlen : (Co.natB (Co.fz x.qty)).length ≤ 10 := Co.natB_len10 (Co.fz_lt hok.out.2.2.2.2.1.1 hok.out.2.2.2.2.1.2)
      obtain ⟨l4, hl4⟩ : ∃ l, l = Co.natB (Co.fz x.qty) := ⟨_, rfl⟩
      rw [← hl4] at hC hlen
      have HL4 := Lib.hid hl4
      clear hl4
      have HC := Lib.hid hC
      clear hC
      go_wp2_with fail
      refine HC.out.mono ?_
      rintro e w5 ⟨q, c, rfl, hq⟩
      clear HC xx
      have hs := newB_slb hq.out
      have hown' := own_fr (S := fun _ => False) hown (Fr.of_below hq.out.2.2.2) (fun _ _ h => h)
      have hd' : Hid (Below w.heap.size w w5) := hd.out.trans (hq.out.2.2.2.mono hd.out.size)
      have hsz := hd'.out.size
      clear hown hq hd
      go_wp2_with (at_builtin; refine append_bytes rfl _ _ rfl w.heap.size _ bs4 rfl hown' ⟨q, 0, none⟩ _ _ l4 rfl hs (by omega) hsz ?_)
      clear hs hown'
      intro v5 u5 bs5 HB5 hown b5
      have hd : Hid (Below w.heap.size w u5) := hd'.out.trans b5
      clear hd' b5 hsz
      have hlen5 : bs5.length ≤ 10050 := by rw [HB5.out, List.length_append]; omega
      clear hlen hlen4
      -- seq
      have h1 := (HO.out.below hd.out).2.2.2
      rcases h1 with h1 | ⟨b, off, hA, _, hc⟩
      · omega
      have hx := hc i hlt
      rw [EX.out] at hx
      clear hc
      injection hA with hA
      injection hA with hA1 hA2
      subst hA1; subst hA2
      obtain ⟨_, _, _, _, _, xx⟩ := hx
      have hC := HN.out x.seq.toNat (by have := hok.out.2.2.2.2.2; omega) u5
      rw [Int.toNat_of_nonneg hok.out.2.2.2.2.2.1] at hC
      have hlen : (Co.natB x.seq.toNat).length ≤ 10 := Co.natB_len10 (by have := hok.out.2.2.2.2.2; omega)
      obtain ⟨l5, hl5⟩ : ∃ l, l = Co.natB x.seq.toNat := ⟨_, rfl⟩
      rw [← hl5] at hC hlen
      have HL5 := Lib.hid hl5
      clear hl5
      have HC := Lib.hid hC
      clear hC
      go_wp2_with fail
      refine HC.out.mono ?_
      rintro e w6 ⟨q, c, rfl, hq⟩
      clear HC xx
      have hs := newB_slb hq.out
      have hown' := own_fr (S := fun _ => False) hown (Fr.of_below hq.out.2.2.2) (fun _ _ h => h)
      have hd' : Hid (Below w.heap.size w w6) := hd.out.trans (hq.out.2.2.2.mono hd.out.size)
      have hsz := hd'.out.size
      clear hown hq hd
      go_wp2_with (at_builtin; refine append_bytes rfl _ _ rfl w.heap.size _ bs5 rfl hown' ⟨q, 0, none⟩ _ _ l5 rfl hs (by omega) hsz ?_)
      clear hs hown'
      intro v6 u6 bs6 HB6 hown b6
      have hd : Hid (Below w.heap.size w u6) := hd'.out.trans b6
      clear hd' b6 hsz
      have hlen6 : bs6.length ≤ 10060 := by rw [HB6.out, List.length_append]; omega
      clear hlen hlen5
      have HB' : Hid (bs6 = Co.natB n ++ (L.take (i + 1)).flatMap ordB) := Lib.hid (by
        rw [HF.out, HB6.out, HB5.out, HB4.out, HB3.out, HB2.out, HB1.out, HB.out, HL0.out, HL1.out, HL2.out, HL3.out, HL4.out, HL5.out]
        unfold ordB
        simp only [List.append_assoc])
      clear HB HB1 HB2 HB3 HB4 HB5 HB6 HL0 HL1 HL2 HL3 HL4 HL5 HF
      go_wp2_with fail
      go_roundg (n - (i + 1))
      case measure => omega
      case rel => exact ⟨i + 1, bs6, by go_num, by omega, by omega, HB', hown, hd⟩
    · have hltz : ¬ (i : Int) < (n : Int) := by omega
      obtain rfl : i = n := by omega
      have e : Hid (bs0 = ordsB L) := Lib.hid (by
        rw [HB.out, List.take_of_length_le (by rw [HLn.out]; exact Nat.le_refl _)]
        unfold ordsB; rw [HLn.out])
      have hpos : 0 < bs0.length := by rw [HB.out, List.length_append]; have := Co.natB_pos i; omega
      obtain ⟨q, cp, hv, hq, _, hs⟩ := own_slb hown hpos
      subst hv
      have HR : Hid (SlB wr (some ⟨q, 0, none⟩) bs0.length bs0 ∧ Below w.heap.size w wr ∧ wr.ownsRow w.heap.size 5 1 (.slice (some ⟨q, 0, none⟩) bs0.length cp) bs0.length (bs0.map byt)) := ⟨hs, hd.out, hown⟩
      clear hs hown hd hpos HB
      go_wp2_with fail
      go_ret
      rw [← e.out]
      exact ⟨_, cp, rfl, HR⟩
end Go.Proofs.Ytemmbgbmkihbaaa
