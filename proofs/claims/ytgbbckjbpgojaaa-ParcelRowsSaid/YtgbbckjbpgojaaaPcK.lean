/- parcel: Clone, Take. -/
import Derived.Test.YtgbbckjbpgojaaaPcJ
namespace Go.Proofs.Ytgbbckjbpgojaaa
open Go.RowKit

/-- A copy was made. -/
def Copy (w : World) (n : Nat) (l : List UInt8) (e : Ending) (w' : World) : Prop := ∃ A c, e = .returned (.slice A n c) ∧ Hid (SlB w' A n l ∧ Below w.heap.size w w' ∧ n ≤ c ∧ c ≤ maxLen)

set_option maxHeartbeats 2000000 in
set_option maxRecDepth 100000 in
theorem clone_some (k o n cap : Nat) (l : List UInt8) (w : World) (hn : 0 < n) (hb : n ≤ 1000000000) (h : SlB w (some ⟨k, o, none⟩) n l) :
    Calls Try.prog 14 #[.slice (some ⟨k, o, none⟩) n cap] w (Copy w n l) := by
  obtain ⟨i0, hi0, hz0, hz1, hz2⟩ := info_parts info_u8
  have hl := h.1
  rcases h.2 with h0 | ⟨b, off, hA, hlt, hc⟩
  · omega
  injection hA with hA
  injection hA with h1 h2 _
  subst h1; subst h2
  have Hnews := Lib.hid (SlB.news hl hc)
  have Hl := Lib.hid hl
  have hown : ∀ W : World, w.heap.size ≤ W.heap.size → (W.alloc (.cells #[] 5)).ownsRow w.heap.size 5 1 (.slice (some ⟨W.heap.size, 0, none⟩) 0 0) 0 [] := fun W hW =>
    World.ownsRow_made W #[] 0 hW (by unfold maxLen; omega) (by simp)
  have HO := Lib.hid (hown w (Nat.le_refl _))
  have hnews2 : ∀ (j : Nat) (u : Value), (l.map byt)[j]? = some u → (w.alloc (.cells #[] 5)).cell? ((⟨k, o, none⟩ : Addr).add j) = some u := fun j u hu => by
    rw [← Hnews.out j u hu, addr_add]
    exact World.cell?_of_block (w := w) (Below.heap_alloc w _ k hlt)
  have Hnews2 := Lib.hid hnews2
  have hnil := fun W => Lib.run_eql_slice_nil (P := Try.prog) W 22 5 (some ⟨k, o, none⟩) n cap 0 0 Try.underlying22
  clear hown hnews2 hc hl h
  go_enter Try.func14, Try.ntmps14
  go_wp2_with (at_builtin; refine wpList_append_lies _ rfl _ _ 22 rfl w.heap.size 5 i0 (.int .u8 0) 1 1 Try.underlying22 hi0 hz0 hz1 hz2 rfl (by decide) _ _ _ rfl HO.out ⟨k, o, none⟩ n cap (l.map byt) rfl ?c0 Hnews2.out (byt_one l) hn ?c1 ?c2 ?c3 (w.heap.size + 1) ?c4 ?_)
  case c0 => exact Hl.out
  case c1 => unfold maxLen; omega
  case c2 => omega
  intro q c w1 hown hgr hat hlt1
  have hfin : Hid (w1.ownsRow w.heap.size 5 1 (.slice (some ⟨q, 0, none⟩) n c) n (l.map byt) ∧ Below w.heap.size w w1) := by
    refine ⟨by simpa using hown, Below.grown ((Below.refl _ _).alloc (Nat.le_refl _) _) hgr (by simp) (fun j hj => ?_)⟩
    simp [Value.ownBlock] at hj; omega
  clear hown hgr hat HO Hnews Hnews2
  have hfin2 : Hid (SlB w1 (some ⟨q, 0, none⟩) n l ∧ Below w.heap.size w w1 ∧ n ≤ c ∧ c ≤ maxLen) := by
    obtain ⟨k', c', hv, _, _, hs⟩ := own_slb hfin.out.1 hn
    have hv2 := hfin.out.1.2
    injection hv with e1 e2 e3
    rw [e1]
    refine ⟨hs, hfin.out.2, ?_⟩
    rcases hv2 with ⟨hx, _⟩ | ⟨kk, cap', cur, hx, _, _, hh, hm, _⟩
    · cases hx
    · injection hx with _ _ hx
      omega
  clear hfin
  go_wp2_with fail
  go_ret
  exact ⟨_, c, by simp, hfin2⟩

set_option maxHeartbeats 2000000 in
set_option maxRecDepth 100000 in
theorem clone_zero (k o cap : Nat) (w : World) :
    Calls Try.prog 14 #[.slice (some ⟨k, o, none⟩) 0 cap] w (Copy w 0 []) := by
  have hnil := fun W => Lib.run_eql_slice_nil (P := Try.prog) W 22 5 (some ⟨k, o, none⟩) 0 cap 0 0 Try.underlying22
  go_enter Try.func14, Try.ntmps14
  go_wp2_with fail
  go_ret
  exact ⟨_, 0, rfl, ⟨rfl, .inl rfl⟩, (Below.refl _ _).alloc (Nat.le_refl _) _, Nat.le_refl _, Nat.zero_le _⟩
theorem clone_c (k o n cap : Nat) (l : List UInt8) (w : World) (hb : n ≤ 1000000000) (h : SlB w (some ⟨k, o, none⟩) n l) :
    Calls Try.prog 14 #[.slice (some ⟨k, o, none⟩) n cap] w (Copy w n l) := by
  rcases Nat.eq_zero_or_pos n with rfl | h0
  · obtain rfl : l = [] := List.eq_nil_of_length_eq_zero h.1
    exact clone_zero k o cap w
  · exact clone_some k o n cap l w h0 hb h

theorem firstF_ok {l : List UInt8} (h : (firstF l).er = 0) : ∃ x y, firstF l = ⟨(l.getD 0 0).toNat, 1 + y, 1 + y + x, 0⟩ ∧ 1 + y + x + 4 ≤ l.length ∧ x ≤ 65536 ∧ y ≤ 10 ∧ (l.getD 0 0).toNat ≠ 0 := by
  have hb := lenF_bd (l.drop 1)
  unfold firstF at h ⊢
  by_cases h0 : l.length = 0
  · rw [if_pos h0] at h; cases h
  rw [if_neg h0] at h ⊢
  by_cases hz : (l.getD 0 0).toNat = 0
  · rw [if_pos hz] at h; cases h
  rw [if_neg hz] at h ⊢
  by_cases he : (lenF (l.drop 1)).2.2 = 0
  · rw [if_neg (not_not_intro he)] at h ⊢
    by_cases ht : l.length < 1 + (lenF (l.drop 1)).2.1 + (lenF (l.drop 1)).1 + 4
    · rw [if_pos ht] at h; cases h
    rw [if_neg ht] at h ⊢
    by_cases hs : four (sumN (l.take (1 + (lenF (l.drop 1)).2.1 + (lenF (l.drop 1)).1))) = (l.drop (1 + (lenF (l.drop 1)).2.1 + (lenF (l.drop 1)).1)).take 4
    · rw [if_pos hs] at h ⊢
      exact ⟨_, _, rfl, by omega, hb.1, hb.2.1, hz⟩
    · rw [if_neg hs] at h; cases h
  · rw [if_pos he] at h
    exact absurd h he
theorem firstF_bad {l : List UInt8} (h : ¬ (firstF l).er = 0) : (firstF l).kd = 0 ∧ (firstF l).fr = 0 ∧ (firstF l).tz = 0 ∧ (firstF l).er ≤ 31 := by
  have hb : (lenF (l.drop 1)).2.2 ≤ 31 := by
    unfold lenF
    split
    · split <;> simp
    · split <;> simp
  unfold firstF at h ⊢
  by_cases h0 : l.length = 0
  · rw [if_pos h0]; exact ⟨rfl, rfl, rfl, Nat.le_refl _⟩
  rw [if_neg h0] at h ⊢
  by_cases hz : (l.getD 0 0).toNat = 0
  · rw [if_pos hz]; exact ⟨rfl, rfl, rfl, by simp⟩
  rw [if_neg hz] at h ⊢
  by_cases he : (lenF (l.drop 1)).2.2 = 0
  · rw [if_neg (not_not_intro he)] at h ⊢
    by_cases ht : l.length < 1 + (lenF (l.drop 1)).2.1 + (lenF (l.drop 1)).1 + 4
    · rw [if_pos ht]; exact ⟨rfl, rfl, rfl, Nat.le_refl _⟩
    rw [if_neg ht] at h ⊢
    by_cases hs : four (sumN (l.take (1 + (lenF (l.drop 1)).2.1 + (lenF (l.drop 1)).1))) = (l.drop (1 + (lenF (l.drop 1)).2.1 + (lenF (l.drop 1)).1)).take 4
    · rw [if_pos hs] at h; exact absurd rfl h
    · rw [if_neg hs]; exact ⟨rfl, rfl, rfl, by simp⟩
  · rw [if_pos he]; exact ⟨rfl, rfl, rfl, hb⟩
/-- The body of the first one. -/
def parB (l : List UInt8) : List UInt8 := (l.drop (firstF l).fr).take ((firstF l).tz - (firstF l).fr)
/-- How many bytes it has. -/
def parN (l : List UInt8) : Nat := if (firstF l).er = 0 then (firstF l).tz + 4 else 0
theorem parN_le (l : List UInt8) : parN l ≤ l.length ∧ ((firstF l).er = 0 → 5 ≤ parN l) := by
  unfold parN
  split
  · rename_i h
    obtain ⟨x, y, e, h1, _⟩ := firstF_ok h
    rw [e]
    simp only
    exact ⟨h1, fun _ => by omega⟩
  · exact ⟨Nat.zero_le _, fun h => by omega⟩
/-- What Take tells. -/
def Taken (w : World) (l : List UInt8) (e : Ending) (w' : World) : Prop :=
  ∃ A c, e = .returned (.tuple #[.int .u8 ((firstF l).kd : Int), .slice A (parB l).length c, .int .i64 (parN l : Int), .int .i64 ((firstF l).er : Int)]) ∧ Hid (SlB w' A (parB l).length (parB l) ∧ Below w.heap.size w w' ∧ (parB l).length ≤ c ∧ c ≤ maxLen)

theorem clone_k {T : TypeId} {w : World} (B q k o n cap : Nat) (l : List UInt8) (x y z : Value) (hb : n ≤ 1000000000) (W : World) (h : Below B w W ∧ B ≤ W.heap.size ∧ SlB W (some ⟨k, o, none⟩) n l ∧ B3 T W q x y z) :
    Calls Try.prog 14 #[.slice (some ⟨k, o, none⟩) n cap] W fun e w' => ∃ A c, e = .returned (.slice A n c) ∧ (w'.cell? ⟨q, 0, none⟩ = some x ∧ w'.cell? ⟨q, 1, none⟩ = some y ∧ w'.cell? ⟨q, 2, none⟩ = some z) ∧ Hid (SlB w' A n l ∧ Below B w w' ∧ n ≤ c ∧ c ≤ maxLen) :=
  (clone_c k o n cap l W hb h.2.2.1).mono fun _ _ ⟨A, c, he, hw⟩ => ⟨A, c, he, (h.2.2.2.below hw.out.2.1).three, hw.out.1, h.1.trans (hw.out.2.1.mono h.2.1), hw.out.2.2⟩

set_option maxHeartbeats 4000000 in
set_option maxRecDepth 100000 in
theorem take_bad (A : Option Addr) (n cap : Nat) (l : List UInt8) (w : World) (h : SlB w A n l) (hn : n ≤ 1000000) (hc : n ≤ cap) (hc2 : cap ≤ 9223372036854775807) (he : ¬ (firstF l).er = 0) :
    Calls Try.prog 10 #[.slice A n cap] w (Taken w l) := by
  have HF := first_c A n cap l w h hn hc hc2
  obtain ⟨k1, k2, k3, k4⟩ := firstF_bad he
  have hv : fstV A cap (firstF l) = .agg #[.int .u8 0, .slice none 0 0, .int .i64 0] := if_neg he
  have hp : parB l = [] := by unfold parB; rw [k2, k3]; rfl
  have hq : parN l = 0 := if_neg he
  have HE : Hid ((firstF l).kd = 0 ∧ parB l = [] ∧ parN l = 0) := ⟨k1, hp, hq⟩
  rw [hv] at HF
  have e1 : (((firstF l).er : Int) == 0) = false := by simp; omega
  have e2 : (((firstF l).er : Int) != 0) = true := by simp; omega
  obtain ⟨er, her⟩ : ∃ er, er = (firstF l).er := ⟨_, rfl⟩
  rw [← her] at HF e1 e2
  have HR := Lib.hid her
  have H1 := Lib.hid HF
  clear k1 k2 k3 k4 hv hp hq HF her he h
  go_enter Try.func10, Try.ntmps10
  go_wp2_with fail
  ((with_reducible refine H1.out.mono ?_); rintro e w1 ⟨rfl, hd1⟩)
  have HB := Lib.hid (hd1.out.alloc hd1.out.size (.cells #[.int .u8 0, .slice none 0 0, .int .i64 0] 45))
  clear hd1 H1
  go_wp2_with fail
  refine bodyPost_ret (v := .tuple #[.int .u8 0, .slice none 0 0, .int .i64 0, .int .i64 (er : Int)]) (by simp [results, Try.results10, go_sem]) rfl ?_
  unfold Taken
  rw [HE.out.1, HE.out.2.1, HE.out.2.2, ← HR.out]
  exact ⟨none, 0, rfl, ⟨rfl, .inl rfl⟩, HB.out, Nat.le_refl _, Nat.zero_le _⟩

set_option maxHeartbeats 4000000 in
set_option maxRecDepth 100000 in
theorem take_good (b off n cap : Nat) (l : List UInt8) (w : World) (h : SlB w (some ⟨b, off, none⟩) n l) (hn : n ≤ 1000000) (hc : n ≤ cap) (hc2 : cap ≤ 9223372036854775807) (he : (firstF l).er = 0) :
    Calls Try.prog 10 #[.slice (some ⟨b, off, none⟩) n cap] w (Taken w l) := by
  have HF := first_c (some ⟨b, off, none⟩) n cap l w h hn hc hc2
  obtain ⟨x, y, hF, hle, hx, hy, hk⟩ := firstF_ok he
  have hpN : parN l = 1 + y + x + 4 := by unfold parN; rw [if_pos he, hF]
  have hpB : parB l = (l.drop (1 + y)).take x := by unfold parB; rw [hF]; simp only; rw [Nat.add_sub_cancel_left]
  have hbl : (parB l).length = x := by rw [hpB, List.length_take, List.length_drop]; omega
  have hl := h.1
  have hs := (h.drop (1 + y) (by omega)).upTo x (by omega)
  rw [← hpB, Option.map_some, addr_add] at hs
  obtain ⟨k0, hk0⟩ : ∃ k0, k0 = (l.getD 0 0).toNat := ⟨_, rfl⟩
  rw [← hk0] at hF
  rw [hF, fstV_ok] at HF
  have HE : Hid ((firstF l).kd = k0 ∧ parN l = 1 + y + x + 4 ∧ (firstF l).er = 0 ∧ (parB l).length = x) := by rw [hF]; exact ⟨rfl, hpN, rfl, hbl⟩
  have HS := Lib.hid hs
  obtain ⟨m, hm⟩ : ∃ m, m = 1 + y + x + 4 := ⟨_, rfl⟩
  rw [← hm] at HF HE
  obtain ⟨o, ho⟩ : ∃ o, o = off + (1 + y) := ⟨_, rfl⟩
  obtain ⟨c0, hc0⟩ : ∃ c0, c0 = cap - (1 + y) := ⟨_, rfl⟩
  rw [← ho, ← hc0] at HF
  rw [← ho] at HS
  have H1 := Lib.hid HF
  have hx2 : x ≤ 1000000000 := by omega
  clear hF hle hk hpN hpB hbl hs hk0 HF hm ho hc0 he h hl hx hy
  go_enter Try.func10, Try.ntmps10
  go_wp2_with fail
  ((with_reducible refine H1.out.mono ?_); rintro e w1 ⟨rfl, hd1⟩)
  have hB1 := hd1.out
  have hP : Below w.heap.size w (w1.alloc (.cells #[.int .u8 (k0 : Int), .slice (some ⟨b, o, none⟩) x c0, .int .i64 (m : Int)] 45)).drew ∧ w.heap.size ≤ (w1.alloc (.cells #[.int .u8 (k0 : Int), .slice (some ⟨b, o, none⟩) x c0, .int .i64 (m : Int)] 45)).drew.heap.size ∧
      SlB (w1.alloc (.cells #[.int .u8 (k0 : Int), .slice (some ⟨b, o, none⟩) x c0, .int .i64 (m : Int)] 45)).drew (some ⟨b, o, none⟩) x (parB l) ∧ B3 45 (w1.alloc (.cells #[.int .u8 (k0 : Int), .slice (some ⟨b, o, none⟩) x c0, .int .i64 (m : Int)] 45)).drew w1.heap.size (.int .u8 (k0 : Int)) (.slice (some ⟨b, o, none⟩) x c0) (.int .i64 (m : Int)) := by
    have hb := hB1.alloc hB1.size (.cells #[.int .u8 (k0 : Int), .slice (some ⟨b, o, none⟩) x c0, .int .i64 (m : Int)] 45)
    exact ⟨hb.drew, hb.size, HS.out.fr0 (S := fun _ => False) (Fr.of_below hb.drew) (fun _ _ _ h => h), heap_alloc_new w1 _⟩
  obtain ⟨c1, c2, c3⟩ := hP.2.2.2.three
  obtain ⟨q, hq⟩ : ∃ q, q = w1.heap.size := ⟨_, rfl⟩
  rw [← hq] at hP c1 c2 c3
  have HP := Lib.hid hP
  have HK := Lib.hid (fun W h => clone_k (T := 45) (w := w) w.heap.size q b o x c0 (parB l) (.int .u8 (k0 : Int)) (.slice (some ⟨b, o, none⟩) x c0) (.int .i64 (m : Int)) hx2 W h)
  clear hd1 hB1 hP H1
  go_wp2_with fail
  rw [← hq]
  clear hq
  go_region_held3 (fun w' => w'.cell? ⟨q, 0, none⟩ = some (.int .u8 (k0 : Int)) ∧ w'.cell? ⟨q, 1, none⟩ = some (.slice (some ⟨b, o, none⟩) x c0) ∧ w'.cell? ⟨q, 2, none⟩ = some (.int .i64 (m : Int))) (first | exact ⟨c1, c2, c3⟩ | go_keep)
    (first | ((with_reducible refine (HK.out _ HP.out).mono ?_); rintro e y1 ⟨A2, c2', rfl, ⟨c1, c2, c3⟩, H2⟩; clear HP HK) | fail)
  all_goals
    go_wp2_with fail
    refine bodyPost_ret (v := .tuple #[.int .u8 (k0 : Int), .slice A2 x c2', .int .i64 (m : Int), .int .i64 0]) (by simp [results, Try.results10, go_sem]) rfl ?_
    unfold Taken
    rw [HE.out.1, HE.out.2.1, HE.out.2.2.1, HE.out.2.2.2]
    exact ⟨A2, c2', rfl, H2.out⟩
theorem take_c (A : Option Addr) (n cap : Nat) (l : List UInt8) (w : World) (h : SlB w A n l) (hn : n ≤ 1000000) (hc : n ≤ cap) (hc2 : cap ≤ 9223372036854775807) :
    Calls Try.prog 10 #[.slice A n cap] w (Taken w l) := by
  by_cases he : (firstF l).er = 0
  · obtain ⟨x, y, _, hle, _⟩ := firstF_ok he
    rcases h.2 with h0 | ⟨b, off, rfl, _, _⟩
    · have := h.1; omega
    · exact take_good b off n cap l w h hn hc hc2 he
  · exact take_bad A n cap l w h hn hc hc2 he
end Go.Proofs.Ytgbbckjbpgojaaa
