/- XCodH, XCodI, XCodJ, XCodK, XCodL, XRefR, XRefS, XRefW, in one text. (By mkmerge.py.) -/
import Derived.Test.YthbocddkomhpoaaCdA
import Derived.Lib.AppendStr

/- codec's writer: natural numbers, whole ones, flags, texts. -/
namespace Go.Proofs.Ythbocddkomhpoaa.Co
open Go.RowKit

/-- A row of the call's own reads as bytes; it lies at no block that was there. -/
theorem own_slb {w : World} {base n : Nat} {v : Value} {l : List UInt8} (h : w.ownsRow base 5 1 v n (l.map byt)) (hn : 0 < n) :
    ∃ k cap, v = .slice (some ⟨k, 0, none⟩) n cap ∧ base ≤ k ∧ k < w.heap.size ∧ SlB w (some ⟨k, 0, none⟩) n l := by
  obtain ⟨h1, h2⟩ := h
  rw [List.length_map, Nat.mul_one] at h1
  rcases h2 with ⟨_, h0⟩ | ⟨k, cap, cur, rfl, hb, hk, hc, hm, hs, ht⟩
  · omega
  · refine ⟨k, cap, rfl, hb, blk_lt hk, h1, .inr ⟨k, 0, rfl, blk_lt hk, fun i hi => ?_⟩⟩
    have hx : (l.map byt)[i]? = some (byt (l.getD i 0)) := by
      rw [List.getElem?_map, List.getD_eq_getElem?_getD, List.getElem?_eq_getElem (by omega)]; rfl
    rw [Nat.zero_add, cell_of_row _ _ _ _ _ _ hk]
    rw [← ht, List.getElem?_take] at hx
    split at hx
    · rw [Array.getElem?_toList] at hx; exact hx
    · cases hx

theorem WS.lt {w : World} {g : Nat} {S : Nat → Prop} {bs : List UInt8} (h : WS w g S bs) : ∀ k, S k → k < w.heap.size := h.2.1
theorem WS.below {w w' : World} {g : Nat} {S : Nat → Prop} {bs : List UInt8} (h : WS w g S bs) (hb : Below w.heap.size w w') : WS w' g S bs :=
  h.fr (S' := fun _ => False) (Fr.of_below hb) (fun _ _ h => h)

/-- Natural numbers in a slice. -/
def SlN (w : World) (k : IntKind) (A : Option Addr) (n : Nat) (xs : List Int) : Prop :=
  xs.length = n ∧ (n = 0 ∨ ∃ b off, A = some ⟨b, off, none⟩ ∧ b < w.heap.size ∧ ∀ i, i < n → w.cell? ⟨b, off + i, none⟩ = some (.int k (xs.getD i 0)))

def natsB (xs : List Nat) : List UInt8 := xs.flatMap natB
theorem natsB_take {xs : List Nat} {k : Nat} (h : k < xs.length) : natsB (xs.take (k + 1)) = natsB (xs.take k) ++ natB (xs.getD k 0) := by
  unfold natsB
  rw [List.take_succ_eq_append_getElem h, List.flatMap_append, List.getD_eq_getElem?_getD, List.getElem?_eq_getElem h]
  simp
theorem natsB_len {xs : List Nat} (h : ∀ x ∈ xs, x < 2 ^ 64) : (natsB xs).length ≤ 10 * xs.length := by
  induction xs with
  | nil => simp [natsB]
  | cons x xs ih =>
    have h1 := natB_len10 (h x (by simp))
    have h2 := ih (fun y hy => h y (by simp [hy]))
    have e : natsB (x :: xs) = natB x ++ natsB xs := by simp [natsB]
    rw [e, List.length_append, List.length_cons]
    omega

theorem groups_s (n : Nat) (h : n < 18446744073709551616) (w : World) :
    Calls Try.prog 42 #[.int .u64 (n : Int)] w fun e w' => ∃ q cap, e = .returned (.slice (some ⟨q, 0, none⟩) (natB n).length cap) ∧ Hid (w.heap.size ≤ q ∧ SlB w' (some ⟨q, 0, none⟩) (natB n).length (natB n) ∧ Below w.heap.size w w') :=
  (groups_c n h w).mono fun e w' ⟨v, he, hown, hb⟩ => by
    obtain ⟨q, cap, hv, hq, _, hs⟩ := own_slb hown (natB_pos n)
    exact ⟨q, cap, by rw [he, hv], hq, hs, hb⟩

set_option maxHeartbeats 4000000 in
set_option maxRecDepth 100000 in
theorem wNat_c (g n c : Nat) (A : Option Addr) (S : Nat → Prop) (bs : List UInt8) (xs : List Nat) (w : World) (h : WS w g S bs) (hl : xs.length = n) (hx : ∀ x ∈ xs, x < 2 ^ 64)
    (hA : n = 0 ∨ ∃ b off, A = some ⟨b, off, none⟩ ∧ b < w.heap.size ∧ ¬ S b ∧ ∀ i, i < n → w.cell? ⟨b, off + i, none⟩ = some (.int .u64 ((xs.getD i 0 : Nat) : Int))) (hsum : bs.length + 10 * n ≤ 900000000) :
    Calls Try.prog 34 #[.pointer (some ⟨g, 0, none⟩), .slice A n c] w (Added g S (bs ++ natsB xs) w) := by
  have hn : (n : Int) ≤ 9223372036854775807 := by omega
  have Hh := Lib.hid h; clear h
  have Hl := Lib.hid hl; clear hl
  have Hx := Lib.hid hx; clear hx
  have HA := Lib.hid hA; clear hA
  go_enter Try.func34, Try.ntmps34
  go_wp2_with fail
  go_loopw [8] (fun i wr => ∃ k : Nat, k ≤ n ∧ i = .int .i64 (k : Int) ∧ Hid (Added g S (bs ++ natsB (xs.take k)) w (.returned (.tuple #[])) wr)) (fun i _ => n - (intOf i).toNat)
  case atStart => exact ⟨0, by omega, rfl, rfl, S, by simpa [natsB] using Hh.out, Fr.refl _ _, fun k hk => .inl hk⟩
  case round =>
    obtain ⟨k, hk, rfl, hd⟩ := hrel
    by_cases hlt : k < n
    · have hltI : (k : Int) < (n : Int) := by omega
      have hk0 : (0 : Int) ≤ (k : Int) := by omega
      obtain ⟨_, S1, hws, hfr, hsub⟩ := hd
      rcases HA.out with h0 | ⟨b, off, rfl, hb, hSb, hcells⟩
      · exfalso; omega
      have ck : wr.cell? ⟨b, off + k, none⟩ = some (.int .u64 ((xs.getD k 0 : Nat) : Int)) := by
        rw [World.cell?_of_block (w := w) (hfr.block b hb hSb)]; exact hcells k hlt
      have hlen := Hl.out
      have hmem : xs.getD k 0 ∈ xs := by
        rw [List.getD_eq_getElem?_getD, List.getElem?_eq_getElem (by omega)]; exact List.getElem_mem _
      have hxk := Hx.out _ hmem
      obtain ⟨x, hxx⟩ : ∃ x, x = xs.getD k 0 := ⟨_, rfl⟩
      rw [← hxx] at ck hxk
      have hpl : (natsB (xs.take k)).length ≤ 10 * k := by
        have := natsB_len (xs := xs.take k) (fun y hy => Hx.out y (List.mem_of_mem_take hy))
        rw [List.length_take] at this; omega
      have hGr := Lib.hid (fun w => groups_s x (by omega) w)
      have h10 := natB_len10 hxk
      have hp := natB_pos x
      have HAdd : Hid (∀ q cap w1, wr.heap.size ≤ q ∧ SlB w1 (some ⟨q, 0, none⟩) (natB x).length (natB x) ∧ Below wr.heap.size wr w1 →
          Calls Try.prog 41 #[.pointer (some ⟨g, 0, none⟩), .slice (some ⟨q, 0, none⟩) (natB x).length cap] w1 fun e w' => e = .returned (.tuple #[]) ∧ Hid (Added g S (bs ++ natsB (xs.take (k + 1))) w (.returned (.tuple #[])) w')) := by
        intro q cap w1 ⟨hq, hsl, hbl⟩
        have hw1 := hws.below hbl
        have := add_c g _ cap _ S1 _ (natB x) w1 hw1 hsl ⟨q, 0, rfl, fun hS => by have := hws.lt q hS; omega⟩ (.inl hp) (by rw [List.length_append]; omega)
        rw [List.append_assoc, hxx, ← natsB_take (by omega)] at this
        rw [hxx]
        refine this.mono fun e w2 h2 => ?_
        have h3 := (h2.back (Fr.of_below hbl) (fun j hj => .inl hj)).back hfr hsub
        have he := h3.1
        subst he
        exact ⟨rfl, h3⟩
      have Hxx := Lib.hid hxx
      clear hws hfr hsub hcells hb hSb hlen hmem hxk hxx hpl h10 hp
      go_wp2_with fail
      ((with_reducible refine (hGr.out _).mono ?_); rintro e w1 ⟨q, cap, rfl, hq⟩)
      have Hadd := Lib.hid (HAdd.out q cap w1 hq.out)
      clear hq HAdd hGr ck
      go_wp2_with fail
      ((with_reducible refine Hadd.out.mono ?_); rintro e w2 ⟨rfl, HD⟩)
      clear Hadd
      go_wp2_with fail
      exact ⟨⟨k + 1, by omega, by go_num, HD.out⟩, by simp [intOf]; omega⟩
    · have hkn : k = n := by omega
      subst hkn
      have HD : Hid (Added g S (bs ++ natsB xs) w (.returned (.tuple #[])) wr) := by
        have := hd.out
        rw [List.take_of_length_le (by have := Hl.out; omega)] at this
        exact this
      clear hd
      go_wp2_with fail
      go_end0
      exact HD.out
end Go.Proofs.Ythbocddkomhpoaa.Co

/- codec's writer: whole numbers, flags, texts; its bytes. -/
namespace Go.Proofs.Ythbocddkomhpoaa.Co
open Go.RowKit

/-- The natural number that a whole one is written as. -/
def fz (n : Int) : Nat := if n < 0 then (-2 * n - 1).toNat else (2 * n).toNat
theorem fz_lt {n : Int} (h0 : -9223372036854775808 ≤ n) (h1 : n ≤ 9223372036854775807) : fz n < 18446744073709551616 := by unfold fz; split <;> omega
theorem zz_fz {n : Int} : zz (fz n) = n := by unfold zz fz; split <;> split <;> omega
theorem fz_zz {n : Nat} : fz (zz n) = n := by unfold zz fz; split <;> split <;> omega

theorem ret_u64 {a b : Int} (h : a = b) : Ending.returned (.int .u64 a) = .returned (.int .u64 b) := by rw [h]
theorem or_odd {k : Nat} (h : 2 * k + 1 < 18446744073709551616) : bits .or .u64 ((2 * k : Nat) : Int) 1 = ((2 * k + 1 : Nat) : Int) := by
  have := bits_or_u64_nat (2 * k) 1 (by omega) (by omega)
  rw [show ((1 : Nat) : Int) = 1 from rfl] at this
  rw [this]
  have h2 := Nat.two_pow_add_eq_or_of_lt (i := 1) (b := 1) (by omega) k
  rw [show (2 : Nat) ^ 1 = 2 from rfl] at h2
  rw [h2]

theorem or_neg {k : Nat} (h : (k : Int) ≤ 9223372036854775807) : bits .or .u64 (IntKind.u64.wrap (IntKind.u64.wrap (k : Int) * 2)) 1 = ((2 * k + 1 : Nat) : Int) := by
  have e1 : IntKind.u64.wrap (k : Int) = (k : Int) := by rw [IntKind.wrap_u64]; omega
  have e2 : IntKind.u64.wrap ((k : Int) * 2) = ((2 * k : Nat) : Int) := by rw [IntKind.wrap_u64]; omega
  rw [e1, e2, or_odd (by omega)]

/-- One number is written. -/
theorem wNat1_c (g x : Nat) (S : Nat → Prop) (bs : List UInt8) (w : World) (h : WS w g S bs) (hx : x < 2 ^ 64) (hsum : bs.length ≤ 800000000) :
    Calls Try.prog 34 #[.pointer (some ⟨g, 0, none⟩), .slice (some ⟨w.heap.size, 0, none⟩) 1 1] (w.alloc (.cells #[.int .u64 (x : Int)] 24)) fun e w' => e = .returned (.tuple #[]) ∧ Hid (Added g S (bs ++ natB x) w (.returned (.tuple #[])) w') := by
  have hb : Below w.heap.size w (w.alloc (.cells #[.int .u64 (x : Int)] 24)) := (Below.refl _ _).alloc (Nat.le_refl _) _
  have := wNat_c g 1 1 (some ⟨w.heap.size, 0, none⟩) S bs [x] _ (h.below hb) rfl (by intro y hy; simp at hy; subst hy; exact hx)
    (.inr ⟨w.heap.size, 0, rfl, by simp, fun hS => by have := h.lt _ hS; omega, fun i hi => by
      obtain rfl : i = 0 := by omega
      rw [cell_of_row _ _ _ _ _ _ (heap_alloc_new w _)]; rfl⟩) (by omega)
  rw [show natsB [x] = natB x by simp [natsB]] at this
  refine this.mono fun e w2 h2 => ?_
  have h3 := h2.back (Fr.of_below hb) (fun j hj => .inl hj)
  have he := h3.1
  subst he
  exact ⟨rfl, h3⟩

def intsB (xs : List Int) : List UInt8 := xs.flatMap fun x => natB (fz x)
theorem intsB_take {xs : List Int} {k : Nat} (h : k < xs.length) : intsB (xs.take (k + 1)) = intsB (xs.take k) ++ natB (fz (xs.getD k 0)) := by
  unfold intsB
  rw [List.take_succ_eq_append_getElem h, List.flatMap_append, List.getD_eq_getElem?_getD, List.getElem?_eq_getElem h]
  simp
theorem intsB_len {xs : List Int} (h : ∀ x ∈ xs, -9223372036854775808 ≤ x ∧ x ≤ 9223372036854775807) : (intsB xs).length ≤ 10 * xs.length := by
  induction xs with
  | nil => simp [intsB]
  | cons x xs ih =>
    have h0 := h x (by simp)
    have h1 := natB_len10 (n := fz x) (fz_lt h0.1 h0.2)
    have h2 := ih (fun y hy => h y (by simp [hy]))
    have e : intsB (x :: xs) = natB (fz x) ++ intsB xs := by simp [intsB]
    rw [e, List.length_append, List.length_cons]
    omega

end Go.Proofs.Ythbocddkomhpoaa.Co

/- codec's writer: a text; its bytes. -/
namespace Go.Proofs.Ythbocddkomhpoaa.Co
open Go.RowKit

theorem bytes_slb (w : World) (s : ByteArray) : SlB (Lib.bytesWorld w 5 s) (some ⟨w.heap.size, 0, none⟩) s.size s.data.toList := by
  refine ⟨rfl, .inr ⟨w.heap.size, 0, rfl, by rw [Lib.bytesWorld_size]; omega, fun i hi => ?_⟩⟩
  rw [Nat.zero_add, Lib.bytesWorld_cell w 5 s i hi]; rfl
theorem bytes_below (w : World) (s : ByteArray) : Below w.heap.size w (Lib.bytesWorld w 5 s) :=
  ⟨by simp [Lib.bytesWorld, World.freeze, World.alloc, World.drew, -World.alloc_eq, -World.drew_eq], by simp [Lib.bytesWorld, World.freeze, World.alloc, World.drew, -World.alloc_eq, -World.drew_eq],
   by simp [Lib.bytesWorld, World.freeze, World.alloc, World.drew, -World.alloc_eq, -World.drew_eq], by rw [Lib.bytesWorld_size]; omega, fun k hk => Lib.bytesWorld_at_old w _ s k hk⟩

set_option maxHeartbeats 2000000 in
set_option maxRecDepth 100000 in
theorem Clone_c (k n cap : Nat) (l : List UInt8) (w : World) (hn : 0 < n) (hb : n ≤ 1000000000) (h : SlB w (some ⟨k, 0, none⟩) n l) :
    Calls Try.prog 35 #[.slice (some ⟨k, 0, none⟩) n cap] w fun e w' => ∃ q c, e = .returned (.slice (some ⟨q, 0, none⟩) n c) ∧ Hid (w'.ownsRow w.heap.size 5 1 (.slice (some ⟨q, 0, none⟩) n c) n (l.map byt) ∧ Below w.heap.size w w') := by
  obtain ⟨i0, hi0, hz0, hz1, hz2⟩ := info_parts info_u8
  have hl := h.1
  rcases h.2 with h0 | ⟨b, off, hA, hlt, hc⟩
  · omega
  injection hA with hA
  injection hA with h1 h2 _
  subst h1; subst h2
  have Hnews := Lib.hid (SlB.news hl hc)
  have Hl := Lib.hid hl
  have hown : ∀ W : World, w.heap.size ≤ W.heap.size → (W.alloc (.cells #[] 5)).ownsRow w.heap.size 5 1 (.slice (some ⟨W.heap.size, 0, none⟩) 0 0) 0 [] := fun W hW =>
    World.ownsRow_made W #[] 0 hW (by unfold maxLen; omega) (by simp)
  have HO := Lib.hid (hown w (Nat.le_refl _))
  have hnews2 : ∀ (j : Nat) (u : Value), (l.map byt)[j]? = some u → (w.alloc (.cells #[] 5)).cell? ((⟨k, 0, none⟩ : Addr).add j) = some u := fun j u hu => by
    rw [← Hnews.out j u hu, addr_add]
    exact World.cell?_of_block (w := w) (Below.heap_alloc w _ k hlt)
  have Hnews2 := Lib.hid hnews2
  have hnil := fun W => Lib.run_eql_slice_nil (P := Try.prog) W 53 5 (some ⟨k, 0, none⟩) n cap 0 0 Try.underlying53
  clear hown hnews2 hc hl h
  go_enter Try.func35, Try.ntmps35
  go_wp2_with (at_builtin; refine wpList_append_lies _ rfl _ _ 53 rfl w.heap.size 5 i0 (.int .u8 0) 1 1 Try.underlying53 hi0 hz0 hz1 hz2 rfl (by decide) _ _ _ rfl HO.out ⟨k, 0, none⟩ n cap (l.map byt) rfl ?c0 Hnews2.out (byt_one l) hn ?c1 ?c2 ?c3 (w.heap.size + 1) ?c4 ?_)
  case c0 => exact Hl.out
  case c1 => unfold maxLen; omega
  case c2 => omega
  intro q c w1 hown hgr hat hlt1
  have hfin : Hid (w1.ownsRow w.heap.size 5 1 (.slice (some ⟨q, 0, none⟩) n c) n (l.map byt) ∧ Below w.heap.size w w1) := by
    refine ⟨by simpa using hown, Below.grown ((Below.refl _ _).alloc (Nat.le_refl _) _) hgr (by simp) (fun j hj => ?_)⟩
    simp [Value.ownBlock] at hj; omega
  clear hown hgr hat HO Hnews Hnews2
  go_wp2_with fail
  go_ret
  exact ⟨q, c, by simp, hfin⟩

set_option maxHeartbeats 4000000 in
set_option maxRecDepth 100000 in
theorem Bytes_some (g t k cap : Nat) (bs : List UInt8) (w : World) (hg : w.heap[g]? = some (.cells #[.pointer (some ⟨t, 0, none⟩), .int .i64 (bs.length : Int)] 48 (0, 0)))
    (ht : w.heap[t]? = some (.cells #[.slice (some ⟨k, 0, none⟩) bs.length cap] 76 (0, 0))) (hcap : bs.length ≤ cap) (hn : 0 < bs.length) (hb : bs.length ≤ 1000000000) (hs : SlB w (some ⟨k, 0, none⟩) bs.length bs) :
    Calls Try.prog 19 #[.pointer (some ⟨g, 0, none⟩)] w fun e w' => ∃ q c, e = .returned (.slice (some ⟨q, 0, none⟩) bs.length c) ∧ Hid (w'.ownsRow w.heap.size 5 1 (.slice (some ⟨q, 0, none⟩) bs.length c) bs.length (bs.map byt) ∧ Below w.heap.size w w') := by
  have g0 : w.cell? ⟨g, 0, none⟩ = some (.pointer (some ⟨t, 0, none⟩)) := by rw [cell_of_row _ _ _ _ _ _ hg]; rfl
  have g1 : w.cell? ⟨g, 1, none⟩ = some (.int .i64 (bs.length : Int)) := by rw [cell_of_row _ _ _ _ _ _ hg]; rfl
  have t0 : w.cell? ⟨t, 0, none⟩ = some (.slice (some ⟨k, 0, none⟩) bs.length cap) := by rw [cell_of_row _ _ _ _ _ _ ht]; rfl
  have HC := Lib.hid (Clone_c k bs.length cap bs w.drew hn hb hs)
  have hcI : (bs.length : Int) ≤ (cap : Int) := by omega
  clear hg ht hs hb
  go_enter Try.func19, Try.ntmps19
  go_wp2_with fail
  go_region_with ((with_reducible refine HC.out.mono ?_); rintro e w1 ⟨q, c, rfl, hq⟩)
  all_goals
    go_wp2_with fail
    go_ret
    exact ⟨q, c, rfl, hq.out.1, (Below.refl _ _).drew.trans hq.out.2⟩

/-- A writer's bytes: nil, or a row of the call's own. -/
theorem Bytes_c (g : Nat) (S : Nat → Prop) (bs : List UInt8) (w : World) (h : WS w g S bs) (hb : bs.length ≤ 1000000000) :
    Calls Try.prog 19 #[.pointer (some ⟨g, 0, none⟩)] w fun e w' => ∃ A c, e = .returned (.slice A bs.length c) ∧ Hid (w'.ownsRow w.heap.size 5 1 (.slice A bs.length c) bs.length (bs.map byt) ∧ Below w.heap.size w w') := by
  obtain ⟨_, _, hx⟩ := h
  rcases hx with ⟨rfl, hg⟩ | ⟨t, v, hpos, hg, ht, _, _, hown⟩
  · refine (Bytes_none g w hg).mono fun e w' h => ?_
    obtain ⟨rfl, rfl⟩ := h
    exact ⟨none, 0, rfl, World.ownsRow_nil _ _ _ _, Below.refl _ _⟩
  · obtain ⟨k, cap, rfl, _, _, hsl⟩ := own_slb hown hpos
    have hcap : bs.length ≤ cap := by
      rcases hown.2 with ⟨h, _⟩ | ⟨_, _, _, h, _, _, hc, _⟩
      · injection h with h; cases h
      · injection h with _ _ h3; omega
    refine (Bytes_some g t k cap bs w hg ht hcap hpos hb hsl).mono fun e w' h => ?_
    obtain ⟨q, c, he, hq⟩ := h
    exact ⟨some ⟨q, 0, none⟩, c, he, hq⟩

/-! ### A writer that is nil -/
theorem nilNat_w (A : Option Addr) (n c : Nat) (w : World) (xs : List Nat) (hx : ∀ x ∈ xs, x < 2 ^ 64) (hl : xs.length = n) (hn : n ≤ 1000000000)
    (hA : n = 0 ∨ ∃ b off, A = some ⟨b, off, none⟩ ∧ b < w.heap.size ∧ ∀ i, i < n → w.cell? ⟨b, off + i, none⟩ = some (.int .u64 ((xs.getD i 0 : Nat) : Int))) :
    Calls Try.prog 34 #[.pointer none, .slice A n c] w fun e w' => e = .returned (.tuple #[]) ∧ Below w.heap.size w w' := by
  have hnI : (n : Int) ≤ 9223372036854775807 := by omega
  have Hl := Lib.hid hl; clear hl
  have Hx := Lib.hid hx; clear hx
  have HA := Lib.hid hA; clear hA
  go_enter Try.func34, Try.ntmps34
  go_wp2_with fail
  go_loopw [8] (fun i wr => ∃ k : Nat, k ≤ n ∧ i = .int .i64 (k : Int) ∧ Below w.heap.size w wr) (fun i _ => n - (intOf i).toNat)
  case atStart => exact ⟨0, by omega, rfl, Below.refl _ _⟩
  case round =>
    obtain ⟨k, hk, rfl, hB⟩ := hrel
    have HB := Lib.hid hB
    by_cases hlt : k < n
    · have hltI : (k : Int) < (n : Int) := by omega
      have hk0 : (0 : Int) ≤ (k : Int) := by omega
      rcases HA.out with h0 | ⟨b, off, rfl, hb, hcells⟩
      · exfalso; omega
      have ck : wr.cell? ⟨b, off + k, none⟩ = some (.int .u64 ((xs.getD k 0 : Nat) : Int)) := (hB.cell (p := ⟨b, off + k, none⟩) hb).trans (hcells k hlt)
      have hmem : xs.getD k 0 ∈ xs := by
        rw [List.getD_eq_getElem?_getD, List.getElem?_eq_getElem (by have := Hl.out; omega)]; exact List.getElem_mem _
      have hxk := Hx.out _ hmem
      obtain ⟨x, hxx⟩ : ∃ x, x = xs.getD k 0 := ⟨_, rfl⟩
      rw [← hxx] at ck hxk
      have hGr := Lib.hid (fun w => groups_s x (by omega) w)
      clear hmem hxk hxx hB hcells hb
      go_wp2_with fail
      ((with_reducible refine (hGr.out _).mono ?_); rintro e w1 ⟨q, cap, rfl, hq⟩)
      clear hGr ck
      go_wp2_with fail
      ((with_reducible refine (nilAdd_c _ _).mono ?_); rintro e w2 ⟨rfl, rfl⟩)
      have hB1 : Below w.heap.size w w1 := HB.out.trans (hq.out.2.2.mono HB.out.size)
      clear hq HB
      go_wp2_with fail
      exact ⟨⟨k + 1, by omega, by go_num, hB1⟩, by simp [intOf]; omega⟩
    · clear hB
      go_wp2_with fail
      go_end0
      first | exact ⟨rfl, HB.out⟩ | exact HB.out
theorem nilNat1_w (x : Nat) (w : World) (hx : x < 2 ^ 64) :
    Calls Try.prog 34 #[.pointer none, .slice (some ⟨w.heap.size, 0, none⟩) 1 1] (w.alloc (.cells #[.int .u64 (x : Int)] 24)) fun e w' => e = .returned (.tuple #[]) ∧ Below w.heap.size w w' := by
  have hb : Below w.heap.size w (w.alloc (.cells #[.int .u64 (x : Int)] 24)) := (Below.refl _ _).alloc (Nat.le_refl _) _
  refine (nilNat_w (some ⟨w.heap.size, 0, none⟩) 1 1 _ [x] (by intro y hy; simp at hy; subst hy; exact hx) rfl (by omega) (.inr ⟨w.heap.size, 0, rfl, by simp, fun i hi => by
      obtain rfl : i = 0 := by omega
      rw [cell_of_row _ _ _ _ _ _ (heap_alloc_new w _)]; rfl⟩)).mono fun e w' h => ?_
  exact ⟨h.1, hb.trans (h.2.mono (by simp))⟩
end Go.Proofs.Ythbocddkomhpoaa.Co

/- codec: Open; the chapter's example. -/
namespace Go.Proofs.Ythbocddkomhpoaa.Co
open Go.RowKit

/-- 'string(b)' of a slice that reads as bytes. -/
theorem conv_str {w : World} {A : Option Addr} {n c : Nat} {l : List UInt8} (h : SlB w A n l) : (convert 53 9 (.slice A n c)).run Try.prog w = .ok (Str l) w := by
  obtain ⟨hl, h2⟩ := h
  rcases h2 with h0 | ⟨b, off, rfl, _, hc⟩
  · subst h0
    have : l = [] := List.eq_nil_of_length_eq_zero hl
    subst this
    rw [run_convert_bytes_string w 53 9 5 A 0 c Try.underlying53 Try.underlying5 Try.underlying9]
    have h1 : ∀ a : Addr, (loadCells a 0).run Try.prog w = .ok #[] w := fun a => run_loadCells_list (P := Try.prog) w a [] (fun j v h => by simp at h)
    cases A <;> simp [Conv.bytesToString, h1]
    all_goals rfl
  · subst hl
    exact run_convert_bytes_back (P := Try.prog) w 53 9 5 ⟨b, off, none⟩ c l Try.underlying53 Try.underlying5 Try.underlying9 (fun j hj => by
      rw [addr_add, hc j hj, List.getD_eq_getElem?_getD, List.getElem?_eq_getElem hj]; rfl)

theorem Open_c (A : Option Addr) (n c : Nat) (l : List UInt8) (w : World) (h : SlB w A n l) :
    Calls Try.prog 18 #[.slice A n c] w fun e w' => e = .returned (.pointer (some ⟨w.heap.size, 0, none⟩)) ∧ w.alloc (.cells #[Str l, .bool false] 73) = w' := by
  have hcv := conv_str (c := c) h
  clear h
  go_enter Try.func18, Try.ntmps18
  go_wp2
  go_ret
  exact ⟨rfl, rfl⟩

theorem natB_300 : natB 300 = [172, 2] := by rw [natB_big (by omega), natB_small (by omega)]; rfl
theorem natB_one : natB 1 = [1] := by rw [natB_small (by omega)]; rfl
theorem natB_zero : natB 0 = [0] := by rw [natB_small (by omega)]; rfl
theorem WS.new (w : World) : WS (w.alloc (.cells #[.pointer none, .int .i64 0] 48)) w.heap.size (· = w.heap.size) [] :=
  ⟨rfl, fun k hk => by simp [hk], .inl ⟨rfl, heap_alloc_new w _⟩⟩
/-- A row of the call's own, read as bytes, empty or not. -/
theorem own_slb0 {w : World} {base n c : Nat} {A : Option Addr} {l : List UInt8} (h : w.ownsRow base 5 1 (.slice A n c) n (l.map byt)) : SlB w A n l := by
  rcases Nat.eq_zero_or_pos n with h0 | h0
  · subst h0
    have h1 := h.1
    exact ⟨by simpa using h1, .inl rfl⟩
  · obtain ⟨k, cap, hv, _, _, hs⟩ := own_slb h h0
    injection hv with h1 _ _
    rw [h1]; exact hs

end Go.Proofs.Ythbocddkomhpoaa.Co

/- codec: a text is read, in one word; bytes that came in; what is read to its end, written again. -/
namespace Go.Proofs.Ythbocddkomhpoaa.Co
open Go.RowKit

/-- A slice of bytes that came in. -/
theorem slB_of_row {w : World} {a : Option Addr} {len cap : Nat} {zs : List Int} (h : (a = none ∧ len = 0 ∧ cap = 0 ∧ zs = []) ∨
    ∃ x, a = some x ∧ len ≤ cap ∧ cap ≤ maxLen ∧ zs.length = cap ∧ (∀ i, i < zs.length → w.cell? (x.add i) = some (.int .u8 (zs.getD i 0))) ∧ ∀ n ∈ zs, (Lit.int .u8 n).wf = true) : ∃ l, SlB w a len l := by
  rcases h with ⟨rfl, rfl, _, _⟩ | ⟨x, rfl, hl, _, hz, hc, hwf⟩
  · exact ⟨[], rfl, .inl rfl⟩
  · by_cases h0 : len = 0
    · subst h0; exact ⟨[], rfl, .inl rfl⟩
    · obtain ⟨b, off, rfl, hc'⟩ := ints_at hc (by omega)
      refine ⟨(zs.take len).map fun z => UInt8.ofNat z.toNat, by simp; omega, .inr ⟨b, off, rfl, ?_, fun i hi => ?_⟩⟩
      · exact World.block_lt_of_cell? w ⟨b, off + 0, none⟩ (hc' 0 (by omega))
      · rw [hc' i (by omega)]
        have hmem : zs.getD i 0 ∈ zs := by
          rw [List.getD_eq_getElem?_getD, List.getElem?_eq_getElem (by omega)]; exact List.getElem_mem _
        have hb := bounds_u8 (hwf _ hmem)
        have e : ((zs.take len).map fun z => UInt8.ofNat z.toNat).getD i 0 = UInt8.ofNat (zs.getD i 0).toNat := by
          simp only [List.getD_eq_getElem?_getD, List.getElem?_map, List.getElem?_take, if_pos hi]
          rw [List.getElem?_eq_getElem (show i < zs.length by omega)]
          rfl
        rw [e]
        unfold byt
        rw [ofNat_toNat (by omega)]
        congr 2
        omega

/-- Once bad, bad. -/
theorem rdN_bad (most : Nat) : rdN [] true most = (0, [], true) := rfl
theorem rdT_bad (most : Int) : rdT [] true most = ([], [], true) := by
  unfold rdT
  split
  · rfl
  · rw [rdN_bad]; rfl
theorem rdN_cases {l : List UInt8} {bd : Bool} {most n : Nat} {t : List UInt8} {b : Bool} (h : rdN l bd most = (n, t, b)) : (t = [] ∧ b = true) ∨ (l = natB n ++ t ∧ b = bd ∧ n ≤ most) := by
  unfold rdN at h
  cases e : readNat l most with
  | none => rw [e] at h; injection h with h1 h2; injection h2 with h2 h3; exact .inl ⟨h2.symm, h3.symm⟩
  | some p =>
    obtain ⟨m, u⟩ := p
    rw [e] at h; injection h with h1 h2; injection h2 with h2 h3
    subst h1; subst h2; subst h3
    exact .inr ⟨natB_readNat e, rfl, (readNat_bound e).1⟩
theorem rdT_cases {l : List UInt8} {bd : Bool} {most : Int} {s t : List UInt8} {b : Bool} (h : rdT l bd most = (s, t, b)) : (t = [] ∧ b = true) ∨ (l = natB s.length ++ s ++ t ∧ b = bd) := by
  unfold rdT at h
  split at h
  · injection h with h1 h2; injection h2 with h2 h3; exact .inl ⟨h2.symm, h3.symm⟩
  · obtain ⟨p, hp⟩ : ∃ p, p = rdN l bd most.toNat := ⟨_, rfl⟩
    obtain ⟨n, u, b'⟩ := p
    rw [← hp] at h
    simp only at h
    split at h
    · injection h with h1 h2; injection h2 with h2 h3; exact .inl ⟨h2.symm, h3.symm⟩
    · injection h with h1 h2; injection h2 with h2 h3
      subst h1; subst h2; subst h3
      rcases rdN_cases hp.symm with ⟨h1, h2⟩ | ⟨h1, h2, _⟩
      · exact .inl ⟨by rw [h1]; simp, h2⟩
      · refine .inr ⟨?_, h2⟩
        have hlen : (u.take n).length = n := by rw [List.length_take]; omega
        rw [hlen, List.append_assoc, List.take_append_drop]; exact h1

/-- What is read to its end, written again. -/
theorem once_eq {l t1 t2 t3 t4 s : List UInt8} {n m f : Nat} {b1 b2 b3 b4 : Bool} {most : Int} (h1 : rdN l false 18446744073709551615 = (n, t1, b1)) (h2 : rdN t1 b1 18446744073709551615 = (m, t2, b2)) (h3 : rdN t2 b2 1 = (f, t3, b3))
    (h4 : rdT t3 b3 most = (s, t4, b4)) (he : endE t4 b4 = 0) : natB n ++ natB (fz (zz m)) ++ natB (if ((f : Int) == 1) then 1 else 0) ++ natB s.length ++ s = l := by
  have hb : b4 = false ∧ t4 = [] := by
    unfold endE at he
    by_cases h : b4 = true ∨ t4 ≠ []
    · rw [if_pos h] at he; cases he
    · constructor
      · cases b4 <;> simp_all
      · cases t4 <;> simp_all
  obtain ⟨rfl, rfl⟩ := hb
  rcases rdT_cases h4 with ⟨_, h⟩ | ⟨e4, rfl⟩
  · cases h
  · rcases rdN_cases h3 with ⟨_, h⟩ | ⟨e3, rfl, hf⟩
    · cases h
    · rcases rdN_cases h2 with ⟨_, h⟩ | ⟨e2, rfl, _⟩
      · cases h
      · rcases rdN_cases h1 with ⟨_, h⟩ | ⟨e1, _, _⟩
        · cases h
        · have ef : (if ((f : Int) == 1) then 1 else 0) = f := by
            have : f = 0 ∨ f = 1 := by omega
            rcases this with rfl | rfl <;> rfl
          rw [fz_zz, ef, e1, e2, e3, e4]
          simp
end Go.Proofs.Ythbocddkomhpoaa.Co

/- The reference's reader. -/
namespace Go.Proofs.Ythbocddkomhpoaa.Co
open Go.RowKit

/-- A reference's reader at block q: what is left; whether it is bad. -/
def RRc (w : World) (bs q : Nat) (A : Option Addr) (n c : Nat) (l : List UInt8) (bd : Bool) : Prop :=
  w.heap[q]? = some (.cells #[.slice A n c, .bool bd] 61 (0, 0)) ∧ SlB w A n l ∧ n ≤ c ∧ c ≤ maxLen ∧ bs ≤ q ∧ ∀ a, A = some a → 0 < c → a.block < bs
def RR (w : World) (bs q : Nat) (l : List UInt8) (bd : Bool) : Prop := ∃ A n c, RRc w bs q A n c l bd
theorem RRc.nil {w : World} {bs q : Nat} {bd : Bool} (hq : bs ≤ q) (h : w.heap[q]? = some (.cells #[.slice none 0 0, .bool bd] 61 (0, 0))) : RRc w bs q none 0 0 [] bd :=
  ⟨h, ⟨rfl, .inl rfl⟩, Nat.le_refl _, Nat.zero_le _, hq, fun a e => by cases e⟩

set_option maxHeartbeats 1000000 in
theorem qfail_c (bs q : Nat) (l : List UInt8) (bd : Bool) (w : World) (h : RR w bs q l bd) :
    Calls Try.prog 45 #[.pointer (some ⟨q, 0, none⟩)] w fun e w' => e = .returned (.int .u64 0) ∧ Hid (Tch q w w' ∧ RR w' bs q [] true) := by
  obtain ⟨A, n, c, h⟩ := h
  have h0 := h.1
  have hq := h.2.2.2.2.1
  have k0 : w.cell? ⟨q, 0, none⟩ = some (.slice A n c) := by rw [cell_of_row _ _ _ _ _ _ h0]; rfl
  have k1 : w.cell? ⟨q, 1, none⟩ = some (.bool bd) := by rw [cell_of_row _ _ _ _ _ _ h0]; rfl
  have k2 : w.frozen? ⟨q, 0, none⟩ = false := frozen_of_row _ _ _ _ _ h0
  have k3 : w.frozen? ⟨q, 1, none⟩ = false := frozen_of_row _ _ _ _ _ h0
  have R : Hid (RR ((w.setCell ⟨q, 0, none⟩ (.slice none 0 0)).setCell ⟨q, 1, none⟩ (.bool true)) bs q [] true) :=
    ⟨none, 0, 0, RRc.nil hq (by rw [heap_set (heap_set h0)]; rfl)⟩
  have T : Hid (Tch q w ((w.setCell ⟨q, 0, none⟩ (.slice none 0 0)).setCell ⟨q, 1, none⟩ (.bool true))) := ((Tch.refl q w).set 0 _).set 1 _
  clear h h0 hq
  go_enter Try.func45, Try.ntmps45
  go_wp2
  go_ret
  exact ⟨rfl, T.out, R.out⟩

set_option maxHeartbeats 1000000 in
theorem qFail_c (bs q : Nat) (l : List UInt8) (bd : Bool) (w : World) (h : RR w bs q l bd) :
    Calls Try.prog 40 #[.pointer (some ⟨q, 0, none⟩)] w fun e w' => e = .returned (.tuple #[]) ∧ Hid (Tch q w w' ∧ RR w' bs q [] true) := by
  have H := Lib.hid (qfail_c bs q l bd w h); clear h
  go_enter Try.func40, Try.ntmps40
  go_wp2_with fail
  ((with_reducible refine H.out.mono ?_); rintro e w1 ⟨rfl, hR⟩)
  clear H
  go_wp2_with fail
  go_end0
  exact ⟨rfl, hR.out⟩

/-- What the reference's number tells. -/
def QT (w : World) (bs q n : Nat) (t : List UInt8) (b : Bool) (e : Ending) (w' : World) : Prop := e = .returned (.int .u64 (n : Int)) ∧ Hid (Tch q w w' ∧ RR w' bs q t b)
theorem QT.bad {w w' : World} {bs q n : Nat} {t : List UInt8} {b : Bool} (h : n = 0 ∧ t = [] ∧ b = true) (hR : Tch q w w' ∧ RR w' bs q [] true) : QT w bs q n t b (.returned (.int .u64 0)) w' := by
  obtain ⟨rfl, rfl, rfl⟩ := h; exact ⟨rfl, hR⟩
theorem rdN_none {l : List UInt8} {bd : Bool} {most n : Nat} {t : List UInt8} {b : Bool} (hr : rdN l bd most = (n, t, b)) (h : natAt 0 0 l = none) : n = 0 ∧ t = [] ∧ b = true := by
  unfold rdN readNat at hr; rw [h] at hr; simp at hr; exact ⟨hr.1.symm, hr.2.1, hr.2.2⟩
theorem rdN_more {l : List UInt8} {bd : Bool} {most n : Nat} {t : List UInt8} {b : Bool} (hr : rdN l bd most = (n, t, b)) {m : Nat} {u : List UInt8} (h : natAt 0 0 l = some (m, u)) (hm : most < m) : n = 0 ∧ t = [] ∧ b = true := by
  unfold rdN readNat at hr; rw [h] at hr; simp only [if_neg (show ¬ m ≤ most by omega)] at hr; simp at hr; exact ⟨hr.1.symm, hr.2.1, hr.2.2⟩
theorem rdN_some {l : List UInt8} {bd : Bool} {most n : Nat} {t : List UInt8} {b : Bool} (hr : rdN l bd most = (n, t, b)) {m : Nat} {u : List UInt8} (h : natAt 0 0 l = some (m, u)) (hm : m ≤ most) : m = n ∧ u = t ∧ bd = b := by
  unfold rdN readNat at hr; rw [h] at hr; simp only [if_pos hm] at hr; simpa using hr

theorem SlB.drop {w : World} {A : Option Addr} {n : Nat} {l : List UInt8} (h : SlB w A n l) (k : Nat) (hk : k ≤ n) : SlB w (A.map (·.add k)) (n - k) (l.drop k) := by
  obtain ⟨hl, h2⟩ := h
  refine ⟨by simp; omega, ?_⟩
  rcases h2 with h0 | ⟨b, off, rfl, hb, hc⟩
  · exact .inl (by omega)
  · refine .inr ⟨b, off + k, by simp [addr_add], hb, fun i hi => ?_⟩
    have := hc (k + i) (by omega)
    rw [show off + k + i = off + (k + i) by omega, this]
    simp [List.getD_eq_getElem?_getD, List.getElem?_drop]

theorem pow_le9 {k : Nat} (h : k ≤ 9) : 128 ^ k ≤ 128 ^ 9 := Nat.pow_le_pow_right (by omega) h

theorem nine_or {k x : Nat} (h : ¬ (k = 9 ∧ 1 < x)) : ((k : Int) == 9) = false ∨ (k = 9 ∧ ¬ (1 : Int) < (x : Int)) := by
  by_cases h9 : k = 9
  · right; omega
  · left; simp; omega
theorem three_or {k x B : Nat} (h : ¬ (k = 9 ∧ 1 < x)) (hz : ¬ (B = 0 ∧ 0 < k)) : k = 0 ∨ (((k : Int) == 9) = false ∧ (0 : Int) < (k : Int) ∧ ((B : Int) == 0) = false) ∨ (k = 9 ∧ ¬ (1 : Int) < (x : Int) ∧ ((B : Int) == 0) = false) := by
  by_cases h0 : k = 0
  · exact .inl h0
  · have hB : ((B : Int) == 0) = false := by simp; omega
    by_cases h9 : k = 9
    · exact .inr (.inr ⟨h9, by omega, hB⟩)
    · refine .inr (.inl ⟨?_, by omega, hB⟩)
      simp; omega
theorem SlB.fr0 {S : Nat → Prop} {w w' : World} {A : Option Addr} {n : Nat} {l : List UInt8} (h : SlB w A n l) (hf : Fr S w w') (hn : ∀ a, A = some a → 0 < n → ¬ S a.block) : SlB w' A n l := by
  by_cases h0 : n = 0
  · exact ⟨h.1, .inl h0⟩
  · exact h.fr hf (fun b off e => hn _ e (by omega))
theorem qcut1 {w : World} {bs q bk off N c k off' N' c' : Nat} {l : List UInt8} {bd : Bool} (h : RRc w bs q (some ⟨bk, off, none⟩) N c l bd) (hk : k ≤ N) (h1 : off' = off + k) (h2 : N' = N - k) (h3 : c' = c - k) :
    RR (w.setCell ⟨q, 0, none⟩ (.slice (some ⟨bk, off', none⟩) N' c')) bs q (l.drop k) bd := by
  obtain ⟨hh, hs, hc, hm, hq, hb⟩ := h
  subst h1; subst h2; subst h3
  have hb1 : 0 < c → bk < bs := hb _ rfl
  refine ⟨_, _, _, by rw [heap_set hh]; rfl, ?_, by omega, by omega, hq, fun a e h0 => by injection e with e; rw [← e]; exact hb1 (by omega)⟩
  have := hs.drop k hk
  simp only [Option.map_some, addr_add] at this
  refine this.fr0 (Fr.tch ((Tch.refl q w).set 0 _)) (fun a e h0 hS => ?_)
  injection e with e
  rw [← e] at hS
  have := hb1 (by omega)
  have hS' : bk = q := hS
  omega
theorem qcut2 {w : World} {bs q bk off N c k N' : Nat} {l : List UInt8} {bd : Bool} (h : RRc w bs q (some ⟨bk, off, none⟩) N c l bd) (hk : N ≤ k) (h2 : N' = 0) :
    RR (w.setCell ⟨q, 0, none⟩ (.slice (some ⟨bk, off, none⟩) N' 0)) bs q (l.drop k) bd := by
  obtain ⟨hh, hs, hc, hm, hq, hb⟩ := h
  subst h2
  have hl := hs.1
  rw [List.drop_of_length_le (by omega)]
  exact ⟨_, _, _, by rw [heap_set hh]; rfl, ⟨rfl, .inl rfl⟩, Nat.le_refl _, Nat.zero_le _, hq, fun a e h0 => absurd h0 (Nat.lt_irrefl 0)⟩
theorem QT.good {w w' : World} {bs q n a : Nat} {t u : List UInt8} {b bd : Bool} (h : a = n ∧ u = t ∧ bd = b) (hT : Tch q w w') (hR : RR w' bs q u bd) : QT w bs q n t b (.returned (.int .u64 (a : Int))) w' := by
  obtain ⟨rfl, rfl, rfl⟩ := h; exact ⟨rfl, hT, hR⟩
theorem step_bd {k x a uu : Nat} (hk : k ≤ 9) (hu : uu = 128 ^ k) (ha : a < 128 ^ k) (hx : x ≤ 127) (h9 : ¬ (k = 9 ∧ 1 < x)) :
    (x * uu < 18446744073709551616 ∧ a + x * uu < 18446744073709551616) ∧ (k ≤ 8 → a + x * uu < 128 ^ (k + 1) ∧ uu * 128 % 18446744073709551616 = 128 ^ (k + 1)) := by
  have h63 : (128 : Nat) ^ 9 = 9223372036854775808 := by decide
  by_cases h : k = 9
  · subst h
    have hx1 : x ≤ 1 := by omega
    have hm : x * uu ≤ 1 * uu := Nat.mul_le_mul_right _ hx1
    rw [h63] at hu ha
    exact ⟨by omega, fun h => by omega⟩
  · have hk8 : k + 1 ≤ 9 := by omega
    have hm : x * uu ≤ 127 * uu := Nat.mul_le_mul_right _ hx
    have hp := pow_le9 hk8
    have hs : (128 : Nat) ^ (k + 1) = 128 ^ k * 128 := Nat.pow_succ _ _
    rw [h63] at hp
    rw [hs] at hp ⊢
    rw [← hu] at hp ha ⊢
    exact ⟨by omega, fun _ => by omega⟩

set_option maxHeartbeats 8000000 in
set_option maxRecDepth 100000 in
theorem qNat_c (bs q : Nat) (l : List UInt8) (bd : Bool) (most : Nat) (w : World) (h : RR w bs q l bd) (n : Nat) (t : List UInt8) (b : Bool) (hr : rdN l bd most = (n, t, b)) :
    Calls Try.prog 39 #[.pointer (some ⟨q, 0, none⟩), .int .u64 (most : Int)] w (QT w bs q n t b) := by
  obtain ⟨A, N, c, h⟩ := h
  obtain ⟨o, ho⟩ : ∃ o, o = natAt 0 0 l := ⟨_, rfl⟩
  have Ho := Lib.hid ho
  have Hr := Lib.hid hr
  have Hh := Lib.hid h
  have hlen : l.length = N := h.2.1.1
  have hN : N ≤ maxLen := Nat.le_trans h.2.2.1 h.2.2.2.1
  have hNI : (N : Int) ≤ 9223372036854775807 := by unfold maxLen at hN; omega
  have Hlen := Lib.hid hlen
  clear ho hr h hlen hN
  go_enter Try.func39, Try.ntmps39
  go_wp2_with fail
  go_loopw [5, 6, 7] (fun n u i wr => ∃ (k a uu : Nat), k ≤ 10 ∧ i = .int .i64 (k : Int) ∧ n = .int .u64 (a : Int) ∧ u = .int .u64 (uu : Int) ∧ Hid (k ≤ N ∧ (k ≤ 9 → uu = 128 ^ k ∧ a < 128 ^ k ∧ natAt k a (l.drop k) = o) ∧ (k = 10 → o = none) ∧ RRc wr bs q A N c l bd ∧ Tch q w wr)) (fun _ _ i _ => 10 - (intOf i).toNat)
  case atStart => exact ⟨0, 0, 1, by omega, rfl, rfl, rfl, by omega, fun _ => ⟨by simp, by simp, Ho.out.symm⟩, by omega, Hh.out, Tch.refl _ _⟩
  case round =>
    obtain ⟨k, a, uu, hk, rfl, rfl, rfl, hh⟩ := hrel
    have h0 := hh.out.2.2.2.1.1
    have k0 : wr.cell? ⟨q, 0, none⟩ = some (.slice A N c) := by rw [cell_of_row _ _ _ _ _ _ h0]; rfl
    have HF := Lib.hid (qfail_c bs q l bd wr ⟨A, N, c, hh.out.2.2.2.1⟩)
    have HT := Lib.hid hh.out.2.2.2.2
    clear h0
    by_cases hin : k < N ∧ k < 10
    · obtain ⟨hi1, hi2⟩ := hin
      have hk9 : k ≤ 9 := by omega
      have hfa := hh.out.2.1 hk9
      obtain ⟨bk, off, rfl, hbk, hcs⟩ : ∃ bk off, A = some ⟨bk, off, none⟩ ∧ bk < wr.heap.size ∧ ∀ i, i < N → wr.cell? ⟨bk, off + i, none⟩ = some (byt (l.getD i 0)) := by
        rcases hh.out.2.2.2.1.2.1.2 with h0 | h0
        · omega
        · exact h0
      have k1 := hcs k hi1
      obtain ⟨by8, hby⟩ : ∃ x, x = l.getD k 0 := ⟨_, rfl⟩
      rw [← hby] at k1
      have hdrop : l.drop k = by8 :: l.drop (k + 1) := by
        have hkl : k < l.length := by rw [Hlen.out]; exact hi1
        rw [List.drop_eq_getElem_cons hkl, hby, List.getD_eq_getElem?_getD, List.getElem?_eq_getElem hkl]; rfl
      rw [hdrop] at hfa
      have Hd := Lib.hid (SlB.drop hh.out.2.2.2.1.2.1 (k + 1) (by omega))
      have Hc := Lib.hid hh.out.2.2.2.1
      obtain ⟨B, hB⟩ : ∃ B : Nat, B = by8.toNat := ⟨_, rfl⟩
      have hBl : B < 256 := by rw [hB]; exact by8.toNat_lt
      have k2 : wr.cell? ⟨bk, off + k, none⟩ = some (.int .u8 (B : Int)) := by rw [k1, hB]; rfl
      have f0 : wr.frozen? ⟨q, 0, none⟩ = false := frozen_of_row _ _ _ _ _ Hc.out.1
      have HB := Lib.hid hB
      have Hu := Lib.hid hfa.1
      have Ha := Lib.hid hfa.2.1
      have Hn := Lib.hid hfa.2.2
      have iI1 : (k : Int) < (N : Int) := by omega
      have iI2 : (k : Int) < 10 := by omega
      have b0 : (B : Int) ≤ 255 := by omega
      obtain ⟨x, hx⟩ : ∃ x : Nat, x = B % 128 := ⟨_, rfl⟩
      have hxB : (B : Int) % 128 = (x : Int) := by omega
      have hx7 : (x : Int) ≤ 127 := by omega
      have Hx := Lib.hid hx
      have Hk9 := Lib.hid hk9
      have Hi1 := Lib.hid hi1
      have hBn : Hid (B < 256) := hBl
      clear hfa hcs k1 hby hdrop hB hh hbk hx hi2 hk hk9 hi1 hBl
      by_cases h9 : k = 9 ∧ 1 < x
      · obtain ⟨rfl, h1⟩ := h9
        have h1' : (1 : Int) < (x : Int) := by omega
        have hE : Hid (n = 0 ∧ t = [] ∧ b = true) := by
          refine rdN_none Hr.out ?_
          rw [← Ho.out, ← Hn.out]
          exact natAt_over ⟨rfl, by have := HB.out; have := Hx.out; omega⟩
        clear h1
        go_wp2_with fail
        ((with_reducible refine HF.out.mono ?_); rintro e w1 ⟨rfl, hR⟩)
        clear HF
        go_wp2_with fail
        go_ret
        exact QT.bad hE.out ⟨HT.out.trans hR.out.1, hR.out.2⟩
      · have h9b : ((k : Int) == 9 && decide ((1 : Int) < (x : Int))) = false := by simp; omega
        obtain ⟨p, hp⟩ : ∃ p : Nat, p = x * uu := ⟨_, rfl⟩
        obtain ⟨a', ha'⟩ : ∃ a' : Nat, a' = a + p := ⟨_, rfl⟩
        have hsb := step_bd Hk9.out Hu.out Ha.out (show x ≤ 127 by omega) h9
        rw [← hp, ← ha'] at hsb
        have hpl := hsb.1
        have Hsb := Lib.hid hsb.2
        clear hsb
        have e1 : IntKind.u64.wrap ((x : Int) * (uu : Int)) = (p : Int) := by
          rw [show (x : Int) * (uu : Int) = (p : Int) by rw [hp]; simp, IntKind.wrap_u64]; omega
        have e2 : IntKind.u64.wrap ((a : Int) + (p : Int)) = (a' : Int) := by
          rw [IntKind.wrap_u64]; omega
        obtain ⟨u', hu'⟩ : ∃ u' : Nat, u' = uu * 128 % 18446744073709551616 := ⟨_, rfl⟩
        have e3 : IntKind.u64.wrap ((uu : Int) * 128) = (u' : Int) := by
          rw [IntKind.wrap_u64]; omega
        have Ha' := Lib.hid ha'
        have Hp := Lib.hid hp
        have Hu' := Lib.hid hu'
        have H9 := Lib.hid h9
        clear hpl ha' hp hu'
        by_cases hb : B < 128
        · have hb2 : (B : Int) < 128 := by omega
          have hn9 : ¬ (k = 9 ∧ 1 < by8.toNat) := by have := HB.out; have := Hx.out; omega
          have hlt : by8.toNat < 128 := by have := HB.out; omega
          have hxe : x = B := by have := Hx.out; omega
          by_cases hz : B = 0 ∧ 0 < k
          · have hE : Hid (n = 0 ∧ t = [] ∧ b = true) := by
              refine rdN_none Hr.out ?_
              rw [← Ho.out, ← Hn.out]
              exact natAt_long hn9 hlt ⟨by have := HB.out; omega, by omega⟩
            obtain ⟨hz0, hz1⟩ := hz
            have iz : (0 : Int) < (k : Int) := by omega
            have iB : (B : Int) = 0 := by omega
            rcases (nine_or H9.out) with h9f | ⟨rfl, h1x⟩
            all_goals
              clear h9 h9b hn9 hlt hxe hz0 hz1 hb
              go_wp2_with fail
              ((with_reducible refine HF.out.mono ?_); rintro e w1 ⟨rfl, hR⟩)
              clear HF
              go_wp2_with fail
              go_ret
              exact QT.bad hE.out ⟨HT.out.trans hR.out.1, hR.out.2⟩
          · have hsome : Hid (natAt 0 0 l = some (a', l.drop (k + 1))) := by
              show _ = _
              rw [← Ho.out, ← Hn.out, natAt_last hn9 hlt (by have := HB.out; omega), Ha'.out, Hp.out, Hu.out, hxe, HB.out]
            have hzb := three_or H9.out hz
            by_cases hm : most < a'
            · have hE : Hid (n = 0 ∧ t = [] ∧ b = true) := rdN_more Hr.out hsome.out hm
              have iM : (most : Int) < (a' : Int) := by omega
              clear hm hz hsome
              clear h9 h9b hn9 hlt hxe hb
              rcases hzb with rfl | ⟨h9f, hz1, hz2⟩ | ⟨rfl, h1x, hz2⟩
              all_goals
                (try rw [Nat.add_zero] at k2)
                go_wp2_with fail
                ((with_reducible refine HF.out.mono ?_); rintro e w1 ⟨rfl, hR⟩)
                clear HF
                go_wp2_with fail
                go_ret
                exact QT.bad hE.out ⟨HT.out.trans hR.out.1, hR.out.2⟩
            · have hE : Hid (a' = n ∧ l.drop (k + 1) = t ∧ bd = b) := rdN_some Hr.out hsome.out (by omega)
              have iM : (a' : Int) ≤ (most : Int) := by omega
              have iC : (N : Int) ≤ (c : Int) := by have := Hc.out.2.2.1; omega
              have iC2 : (c : Int) ≤ 9223372036854775807 := by have := Hc.out.2.2.2.1; unfold maxLen at this; omega
              have iK : (k : Int) + 1 ≤ (N : Int) := by omega
              clear hm hz hsome h9 h9b hn9 hlt hxe hb HF
              rcases hzb with rfl | ⟨h9f, hz1, hz2⟩ | ⟨rfl, h1x, hz2⟩
              all_goals
                (try rw [Nat.add_zero] at k2)
                go_wp2
                all_goals
                  go_ret
                  refine QT.good hE.out (HT.out.set 0 _) ?_
                  have hc0 := Hc.out.2.2.1
                  have hi0 := Hi1.out
                  first
                  | exact qcut1 Hc.out (by omega) (by omega) (by omega) (by omega)
                  | exact qcut2 Hc.out (by omega) (by omega)
        · have hb2 : (128 : Int) ≤ (B : Int) := by omega
          have hnx : Hid (k + 1 ≤ N ∧ (k + 1 ≤ 9 → u' = 128 ^ (k + 1) ∧ a' < 128 ^ (k + 1) ∧ natAt (k + 1) a' (l.drop (k + 1)) = o) ∧ (k + 1 = 10 → o = none) ∧ RRc wr bs q (some ⟨bk, off, none⟩) N c l bd ∧ Tch q w wr) := by
            have h1 := Hi1.out
            have h2 := HB.out
            refine ⟨h1, fun hk8 => ?_, fun h10 => ?_, Hc.out, HT.out⟩
            · have h3 := Hsb.out (by omega)
              refine ⟨by rw [Hu'.out]; exact h3.2, by rw [Ha'.out] at h3; rw [Ha'.out]; exact h3.1, ?_⟩
              rw [← Hn.out, natAt_more (by omega) (by omega), Ha'.out, Hp.out, Hu.out]
              congr 3
              have := Hx.out
              have := hBn.out
              omega
            · rw [← Hn.out]
              exact natAt_over ⟨by omega, by omega⟩
          have hk10 : Hid (k + 1 ≤ 10) := by have := Hk9.out; show _ ≤ _; omega
          by_cases h9e : k = 9
          · subst h9e
            have h1x : ¬ ((1 : Int) < (x : Int)) := by omega
            clear h9 h9b hb
            go_wp2_with fail
            refine ⟨⟨9 + 1, a', u', hk10.out, by go_num, rfl, rfl, hnx.out⟩, by simp [intOf]⟩
          · have h9f : ((k : Int) == 9) = false := by simp; omega
            clear h9 h9b hb h9e
            go_wp2_with fail
            refine ⟨⟨k + 1, a', u', hk10.out, by go_num, rfl, rfl, hnx.out⟩, by simp [intOf]; omega⟩
    · have hE : Hid (n = 0 ∧ t = [] ∧ b = true) := by
        refine rdN_none Hr.out ?_
        rw [← Ho.out]
        by_cases h10 : k = 10
        · exact hh.out.2.2.1 h10
        · have h1 := (hh.out.2.1 (by omega)).2.2
          rw [List.drop_of_length_le (by have := Hlen.out; have := hh.out.1; omega), natAt_nil] at h1
          exact h1.symm
      have hle : Hid (k ≤ N) := hh.out.1
      by_cases h1 : k < N
      · have h2 : k = 10 := by omega
        subst h2
        have h1I : (10 : Int) < (N : Int) := by omega
        clear hin h1 hh
        go_wp2_with fail
        ((with_reducible refine HF.out.mono ?_); rintro e w1 ⟨rfl, hR⟩)
        clear HF
        go_wp2_with fail
        go_ret
        exact QT.bad hE.out ⟨HT.out.trans hR.out.1, hR.out.2⟩
      · have h2 : k = N := by have := hle.out; omega
        subst h2
        clear hin h1 hh
        go_wp2_with fail
        ((with_reducible refine HF.out.mono ?_); rintro e w1 ⟨rfl, hR⟩)
        clear HF
        go_wp2_with fail
        go_ret
        exact QT.bad hE.out ⟨HT.out.trans hR.out.1, hR.out.2⟩
end Go.Proofs.Ythbocddkomhpoaa.Co

/- The reference's reader: whole numbers, flags, texts, its end. -/
namespace Go.Proofs.Ythbocddkomhpoaa.Co
open Go.RowKit

theorem SlB.take {w : World} {A : Option Addr} {n : Nat} {l : List UInt8} (h : SlB w A n l) (k : Nat) (hk : k ≤ n) : SlB w A k (l.take k) := by
  obtain ⟨hl, h2⟩ := h
  refine ⟨by simp; omega, ?_⟩
  rcases h2 with h0 | ⟨b, off, rfl, hb, hc⟩
  · exact .inl (by omega)
  · refine .inr ⟨b, off, rfl, hb, fun i hi => ?_⟩
    rw [hc i (by omega)]
    simp [List.getD_eq_getElem?_getD, hi]

theorem add_block (a : Addr) (n : Nat) : (a.add n).block = a.block := by unfold Addr.add; split <;> rfl
theorem qcutA {w : World} {bs q N c k : Nat} {a : Addr} {l : List UInt8} {bd : Bool} (h : RRc w bs q (some a) N c l bd) (hk : k ≤ N) :
    RR (w.setCell ⟨q, 0, none⟩ (.slice (some (a.add k)) (N - k) (c - k))) bs q (l.drop k) bd := by
  obtain ⟨hh, hs, hc, hm, hq, hb⟩ := h
  have hb1 : 0 < c → a.block < bs := hb _ rfl
  refine ⟨_, _, _, by rw [heap_set hh]; rfl, ?_, by omega, by omega, hq, fun a' e h0 => by injection e with e; rw [← e, add_block]; exact hb1 (by omega)⟩
  have := hs.drop k hk
  simp only [Option.map_some] at this
  refine this.fr0 (Fr.tch ((Tch.refl q w).set 0 _)) (fun a' e h0 hS => ?_)
  injection e with e
  rw [← e, add_block] at hS
  have := hb1 (by omega)
  have hS' : a.block = q := hS
  omega
theorem qcutB {w : World} {bs q N c k N' : Nat} {A : Option Addr} {l : List UInt8} {bd : Bool} (h : RRc w bs q A N c l bd) (hk : N ≤ k) (h2 : N' = 0) {c' : Nat} (hc' : c' ≤ maxLen) (hA : ∀ a, A = some a → 0 < c' → a.block < bs) :
    RR (w.setCell ⟨q, 0, none⟩ (.slice A N' c')) bs q (l.drop k) bd := by
  obtain ⟨hh, hs, hc, hm, hq, hb⟩ := h
  subst h2
  have hl := hs.1
  rw [List.drop_of_length_le (by omega)]
  exact ⟨_, _, _, by rw [heap_set hh]; rfl, ⟨rfl, .inl rfl⟩, Nat.zero_le _, hc', hq, hA⟩

end Go.Proofs.Ythbocddkomhpoaa.Co

/- The reference's bytes: numbers, flags, texts. -/
namespace Go.Proofs.Ythbocddkomhpoaa.Co
open Go.RowKit

/-- A row of some bytes, new. -/
def NewB (w0 w : World) (q n c : Nat) (l : List UInt8) : Prop :=
  w0.heap.size ≤ q ∧ SlB w (some ⟨q, 0, none⟩) n l ∧ w.ownsRow w0.heap.size 5 1 (.slice (some ⟨q, 0, none⟩) n c) n (l.map byt) ∧ Below w0.heap.size w0 w

theorem byte_hi {n : Nat} : IntKind.u8.wrap ((n : Int) % 128 + 128) = ((UInt8.ofNat (n % 128 + 128)).toNat : Int) := by
  rw [ofNat_toNat (by omega), IntKind.wrap_u8]; omega

theorem lit_one (w : World) (b : UInt8) : (w.alloc (.cells #[byt b] 5)).ownsRow w.heap.size 5 1 (.slice (some ⟨w.heap.size, 0, none⟩) 1 1) 1 ([b].map byt) :=
  ⟨rfl, .inr ⟨w.heap.size, 1, #[byt b], rfl, Nat.le_refl _, heap_alloc_new w _, Nat.le_refl _, by unfold maxLen; omega, rfl, rfl⟩⟩

set_option maxHeartbeats 4000000 in
set_option maxRecDepth 100000 in
theorem refNat_c : ∀ (n : Nat), n < 2 ^ 64 → ∀ (w : World),
    Calls Try.prog 38 #[.int .u64 (n : Int)] w fun e w' => ∃ q c, e = .returned (.slice (some ⟨q, 0, none⟩) (natB n).length c) ∧ Hid (NewB w w' q (natB n).length c (natB n)) := by
  intro n
  induction n using Nat.strongRecOn with
  | ind n ih =>
    intro hn w
    have hnI : (n : Int) ≤ 18446744073709551615 := by omega
    by_cases h : n < 128
    · have hI : (n : Int) < 128 := by omega
      obtain ⟨b, hb⟩ : ∃ b, b = UInt8.ofNat n := ⟨_, rfl⟩
      obtain rfl : n = b.toNat := by rw [hb, ofNat_toNat (by omega)]
      have hl : natB b.toNat = [b] := by rw [natB_small h, ← hb]
      rw [hl]
      clear ih hn hb hl h hnI
      have hI2 : (b.toNat : Int) ≤ 127 := by omega
      go_enter Try.func38, Try.ntmps38
      go_wp2_with fail
      go_ret
      refine ⟨w.heap.size, 1, rfl, Nat.le_refl _, ?_, lit_one w b, (Below.refl _ _).alloc (Nat.le_refl _) _⟩
      exact own_slb0 (lit_one w b)
    · obtain ⟨i0, hi0, hz0, hz1, hz2⟩ := info_parts info_u8
      have hI : (128 : Int) ≤ (n : Int) := by omega
      have hq : (n : Int) / 128 = ((n / 128 : Nat) : Int) := by omega
      have hl : natB n = UInt8.ofNat (n % 128 + 128) :: natB (n / 128) := natB_big (by omega)
      have hlen := natB_len10 hn
      have hp := natB_pos (n / 128)
      have HR := Lib.hid (fun W => ih (n / 128) (by omega) (by omega) W)
      have he := byte_hi (n := n)
      obtain ⟨b, hb⟩ : ∃ b, b = UInt8.ofNat (n % 128 + 128) := ⟨_, rfl⟩
      obtain ⟨t, ht⟩ : ∃ t, t = natB (n / 128) := ⟨_, rfl⟩
      obtain ⟨m, hm⟩ : ∃ m, m = n / 128 := ⟨_, rfl⟩
      rw [← hb] at he hl
      rw [← hm] at ht hq HR hl hp
      rw [← ht] at HR hl hp
      rw [hl] at hlen ⊢
      simp only [List.length_cons] at hlen ⊢
      clear ih hn hb hl ht hm h
      go_enter Try.func38, Try.ntmps38
      go_wp2_with fail
      ((with_reducible refine (HR.out _).mono ?_); rintro e w1 ⟨q, c, rfl, hnb⟩)
      obtain ⟨hq1, hsl, _, hbl⟩ := hnb
      have hbl' : Below (w.heap.size + 1) (w.alloc (.cells #[byt b] 5)) w1 := by rw [World.size_alloc] at hbl; exact hbl
      have ho1 : w1.ownsRow w.heap.size 5 1 (.slice (some ⟨w.heap.size, 0, none⟩) 1 1) 1 ([b].map byt) := by
        obtain ⟨h1, h2⟩ := lit_one w b
        refine ⟨h1, ?_⟩
        rcases h2 with h | ⟨g, cp, cur, hv, hg, hk, rest⟩
        · exact .inl h
        · refine .inr ⟨g, cp, cur, hv, hg, (hbl'.block g ?_).trans hk, rest⟩
          have := blk_lt hk; simpa using this
      have hsz1 : w.heap.size + 1 ≤ w1.heap.size := by have := hbl'.size; simpa using this
      have HO := Lib.hid ho1
      have hB1 : Hid (Below w.heap.size w w1) := ((Below.refl _ _).alloc (Nat.le_refl _) _).trans (hbl'.mono (by omega))
      have hnews : Hid (∀ (j : Nat) (u : Value), (t.map byt)[j]? = some u → w1.cell? ((⟨q, 0, none⟩ : Addr).add j) = some u) := by
        rcases hsl.2 with h0 | ⟨b', off', hA, _, hc⟩
        · omega
        · injection hA with hA
          injection hA with h1 h2 _
          subst h1; subst h2
          exact SlB.news hsl.1 hc
      have HTL : Hid (t.length = t.length) := rfl
      clear hbl hbl' hsl ho1 HR hq1
      go_wp2_with (at_builtin; refine wpList_append_lies _ rfl _ _ 53 rfl w.heap.size 5 i0 (.int .u8 0) 1 1 Try.underlying53 hi0 hz0 hz1 hz2 rfl (by decide) _ _ _ rfl HO.out ⟨q, 0, none⟩ t.length c (t.map byt) rfl ?c0 hnews.out (byt_one t) hp ?c1 ?c2 ?c3 w1.heap.size ?c4 ?_)
      case c0 => simp
      case c1 => unfold maxLen; omega
      case c2 => omega
      case c3 => omega
      case c4 => rfl
      intro q2 c2 w2 hown hgr hat hlt2
      have hfin : Hid (NewB w w2 q2 (t.length + 1) c2 (b :: t)) := by
        have ho : w2.ownsRow w.heap.size 5 1 (.slice (some ⟨q2, 0, none⟩) (t.length + 1) c2) (t.length + 1) ((b :: t).map byt) := by
          rw [Nat.add_comm t.length 1]; exact hown
        refine ⟨?_, own_slb0 ho, ho, hB1.out.grown hgr (by omega) (fun j hj => ?_)⟩
        · rcases hat with h | h
          · simp [Value.ownBlock] at h; omega
          · omega
        · simp [Value.ownBlock] at hj; omega
      rw [Nat.add_comm 1 t.length]
      clear hown hgr hat HO hnews hB1
      go_wp2_with fail
      go_ret
      exact ⟨q2, c2, rfl, hfin⟩

end Go.Proofs.Ythbocddkomhpoaa.Co
