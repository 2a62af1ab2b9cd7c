/- grid: whether a table may be. -/
import Derived.Test.YtpibkjldmmecpaaGrO
namespace Go.Proofs.Ytpibkjldmmecpaa
open Go.RowKit

theorem getF (t : List Tk) (i : Nat) : (t[i]!).f = F t i := by
  unfold F
  rw [List.getElem!_eq_getElem?_getD, List.getD_eq_getElem?_getD]; rfl
theorem getS (t : List Tk) (i : Nat) : (t[i]!).s = S t i := by
  unfold S
  rw [List.getElem!_eq_getElem?_getD, List.getD_eq_getElem?_getD]; rfl
/-- The cells of a table. -/
theorem Tks.row {w : World} {a : Option Addr} {len : Nat} {t : List Tk} (h : Tks w a len t) {i : Nat} (hi : i < len) :
    ∃ b off, a = some ⟨b, off, none⟩ ∧ b < w.heap.size ∧ w.cell? ⟨b, off + i * 2, none⟩ = some (.int .i64 (F t i)) ∧ w.cell? ⟨b, off + i * 2 + 1, none⟩ = some (.int .i64 (S t i)) ∧
      (-9223372036854775808 ≤ F t i ∧ F t i ≤ 9223372036854775807) ∧ (-9223372036854775808 ≤ S t i ∧ S t i ≤ 9223372036854775807) := by
  obtain ⟨h1, h2, h3, h4⟩ := h
  rcases h4 with h4 | ⟨b, off, ha, hb, hc⟩
  · omega
  · obtain ⟨p0, p1⟩ := hc i hi
    rw [getF] at p0
    rw [getS] at p1
    have hm : t[i]! ∈ t := by
      rw [List.getElem!_eq_getElem?_getD, List.getElem?_eq_getElem (by rw [h1]; exact hi)]
      exact List.getElem_mem _
    have ho := h3 _ hm
    unfold Tk.ok at ho
    rw [getF, getS] at ho
    exact ⟨b, off, ha, hb, p0, p1, ho⟩

/-- What the closure leaves: the last row's beginning. -/
def Wr (c : Nat) (f : Int) (w : World) (r : Bool) (e : Ending) (w' : World) : Prop := e = .returned (.bool r) ∧ Hid (Tch c w w' ∧ Bx 2 w' c (.int .i64 f))
theorem Wr.mk {c : Nat} {f v : Int} {w : World} {r r' : Bool} (h : Bx 2 w c (.int .i64 v)) (o : Obj) (hr : r' = r) : Wr c f w r (.returned (.bool r')) ((w.setCell ⟨c, 0, none⟩ (.int .i64 f)).alloc o) :=
  ⟨by rw [hr], ((Tch.refl c w).set 0 _).alloc o, (h.set _).alloc o⟩

set_option maxHeartbeats 4000000 in
set_option maxRecDepth 100000 in
theorem wrong_c (c : Nat) (last f s : Int) (w : World) (h : Bx 2 w c (.int .i64 last)) :
    Calls Try.prog 37 #[.agg #[.int .i64 f, .int .i64 s], .pointer (some ⟨c, 0, none⟩)] w (Wr c f w (!(decide (last < f) && decide (f ≤ 1099511627776) && decide (1 ≤ s) && decide (s ≤ 1099511627776)))) := by
  obtain ⟨r, hr⟩ : ∃ r, r = (!(decide (last < f) && decide (f ≤ 1099511627776) && decide (1 ≤ s) && decide (s ≤ 1099511627776))) := ⟨_, rfl⟩
  rw [← hr]
  have k0 := (h.alloc (.cells #[.int .i64 f, .int .i64 s] 56)).c0
  have f0 := (h.alloc (.cells #[.int .i64 f, .int .i64 s] 56)).f0
  have hc : c < w.heap.size := blk_lt h
  have HW := Lib.hid (fun r r' o => Wr.mk (f := f) (r := r) (r' := r') h o)
  clear h
  by_cases h1 : last < f
  · by_cases h2 : f ≤ 1099511627776
    · by_cases h3 : 1 ≤ s
      · by_cases h4 : s ≤ 1099511627776
        · have h : r = false := by rw [hr]; simp [h1, h2, h3, h4]
          subst h
          clear hr
          go_enter Try.func37, Try.ntmps37
          go_wp2_with fail
          go_ret
          exact HW.out _ _ _ (by first | rfl | (simp; omega))
        · have hn : 1099511627776 < s := by omega
          have h : r = true := by rw [hr]; simp [h4]
          subst h
          clear hr h4
          go_enter Try.func37, Try.ntmps37
          go_wp2_with fail
          go_ret
          exact HW.out _ _ _ (by first | rfl | (simp; omega))
      · have hn : s < 1 := by omega
        have h : r = true := by rw [hr]; simp [h3]
        subst h
        clear hr h3
        go_enter Try.func37, Try.ntmps37
        go_wp2_with fail
        go_ret
        exact HW.out _ _ _ (by first | rfl | (simp; omega))
    · have hn : 1099511627776 < f := by omega
      have h : r = true := by rw [hr]; simp [h2]
      subst h
      clear hr h2
      go_enter Try.func37, Try.ntmps37
      go_wp2_with fail
      go_ret
      exact HW.out _ _ _ (by first | rfl | (simp; omega))
  · have hn : f ≤ last := by omega
    have h : r = true := by rw [hr]; simp [h1]
    subst h
    clear hr h1
    go_enter Try.func37, Try.ntmps37
    go_wp2_with fail
    go_ret
    exact HW.out _ _ _ (by first | rfl | (simp; omega))

def frst (t : List Tk) (p : Nat → Bool) (i : Nat) : Int := if h : i < t.length then (if p i then (i : Int) else frst t p (i + 1)) else -1
termination_by t.length - i
theorem frst_yes {t : List Tk} {p : Nat → Bool} {i : Nat} (h : i < t.length) (hp : p i = true) : frst t p i = i := by rw [frst, dif_pos h, if_pos hp]
theorem frst_no {t : List Tk} {p : Nat → Bool} {i : Nat} (h : i < t.length) (hp : p i = false) : frst t p i = frst t p (i + 1) := by rw [frst, dif_pos h, if_neg (by rw [hp]; decide)]
theorem frst_end {t : List Tk} {p : Nat → Bool} {i : Nat} (h : ¬ i < t.length) : frst t p i = -1 := by rw [frst, dif_neg h]
theorem frst_all {t : List Tk} {p : Nat → Bool} : ∀ (d i : Nat), t.length - i = d → ((∀ j, i ≤ j → j < t.length → p j = false) → frst t p i = -1) ∧ (¬ (∀ j, i ≤ j → j < t.length → p j = false) → 0 ≤ frst t p i) := by
  intro d
  induction d with
  | zero =>
    intro i hd
    rw [frst_end (by omega)]
    exact ⟨fun _ => rfl, fun h => absurd (fun j h1 h2 => by omega) h⟩
  | succ d ih =>
    intro i hd
    cases hp : p i
    · rw [frst_no (by omega) hp]
      have := ih (i + 1) (by omega)
      refine ⟨fun h => this.1 (fun j h1 h2 => h j (by omega) h2), fun h => this.2 (fun h2 => h (fun j h3 h4 => ?_))⟩
      by_cases e : j = i
      · rw [e]; exact hp
      · exact h2 j (by omega) h4
    · rw [frst_yes (by omega) hp]
      refine ⟨fun h => ?_, fun _ => by omega⟩
      have := h i (Nat.le_refl _) (by omega)
      rw [hp] at this; cases this
/-- A row that is wrong. -/
def badI (t : List Tk) (i : Nat) : Bool := !(decide (lastI t i < F t i) && decide (F t i ≤ 1099511627776) && decide (1 ≤ S t i) && decide (S t i ≤ 1099511627776))
theorem badI_ok {t : List Tk} {i : Nat} : badI t i = false ↔ okI t i := by
  unfold badI okI
  simp [and_assoc]

/-- What a search through a table leaves. -/
def Sought (base : Nat) (w0 : World) (r : Int) (e : Ending) (w' : World) : Prop := e = .returned (.int .i64 r) ∧ Hid (Below base w0 w')

set_option maxHeartbeats 4000000 in
set_option maxRecDepth 100000 in
theorem idxWrong_c (c : Nat) (a : Option Addr) (len cap base : Nat) (t : List Tk) (w0 w : World) (h : Tks w0 a len t) (h0 : w0.heap.size = base) (hb : Below base w0 w) (hc : base ≤ c) (hx : Bx 2 w c (.int .i64 (-1))) :
    Calls Try.prog 34 #[.slice a len cap, .func (.func 37) #[] #[.pointer (some ⟨c, 0, none⟩)]] w (Sought base w0 (frst t (badI t) 0)) := by
  have HT := Lib.hid h
  have hl := h.1
  have hm := h.2.1
  have HL := Lib.hid hl
  have hmI : (len : Int) ≤ 9223372036854775807 := by omega
  have H0 : Hid (Below base w0 w ∧ Bx 2 w c (.int .i64 (lastI t 0))) := ⟨hb, hx⟩
  have Hb := Lib.hid h0
  have Hc := Lib.hid hc
  clear h hl hm hb hx h0 hc
  go_enter Try.func34, Try.ntmps34
  go_wp2_with fail
  go_loopw [8] (fun i wr => ∃ k : Nat, k ≤ len ∧ i = .int .i64 (k : Int) ∧ Hid (frst t (badI t) 0 = frst t (badI t) k ∧ Below base w0 wr ∧ Bx 2 wr c (.int .i64 (lastI t k)))) (fun i _ => len - (intOf i).toNat)
  case atStart => exact ⟨0, by omega, rfl, rfl, H0.out⟩
  case round =>
    clear H0
    obtain ⟨k, hk, rfl, hd⟩ := hrel
    by_cases hlt : k < len
    · have hltI : (k : Int) < (len : Int) := by omega
      have hk0 : (0 : Int) ≤ (k : Int) := by omega
      obtain ⟨b, off, rfl, hb, p0, p1, _, _⟩ := (HT.out.below (by rw [Hb.out]; exact hd.out.2.1)).row hlt
      have HW := Lib.hid (wrong_c c (lastI t k) (F t k) (S t k) wr hd.out.2.2)
      have HN : Hid (F t k = lastI t (k + 1)) := rfl
      have HR : Hid ((!(decide (lastI t k < F t k) && decide (F t k ≤ 1099511627776) && decide (1 ≤ S t k) && decide (S t k ≤ 1099511627776))) = badI t k) := rfl
      rw [HR.out] at HW
      clear HR
      cases hbd : badI t k
      · have HF : Hid (frst t (badI t) 0 = frst t (badI t) (k + 1)) := by show _ = _; rw [hd.out.1, frst_no (by rw [HL.out]; exact hlt) hbd]
        rw [hbd] at HW
        obtain ⟨f, hf⟩ : ∃ f, f = F t k := ⟨_, rfl⟩
        obtain ⟨s, hs⟩ : ∃ s, s = S t k := ⟨_, rfl⟩
        rw [← hf, ← hs] at HW
        rw [← hf] at p0 HN
        rw [← hs] at p1
        clear hbd hf hs
        go_wp2_with fail
        ((with_reducible refine HW.out.mono ?_); rintro e w1 ⟨rfl, hd1⟩)
        have hD : Hid (Below base w0 w1 ∧ Bx 2 w1 c (.int .i64 (lastI t (k + 1)))) :=
          ⟨hd.out.2.1.trans (hd1.out.1.below Hc.out (by rw [← Hb.out]; exact hd.out.2.1.size)), by rw [← HN.out]; exact hd1.out.2⟩
        clear hd hd1 HW
        go_wp2_with fail
        exact ⟨⟨k + 1, by omega, by go_num, HF.out, hD.out⟩, by simp [intOf]; omega⟩
      · have HF : Hid (frst t (badI t) 0 = (k : Int)) := by show _ = _; rw [hd.out.1, frst_yes (by rw [HL.out]; exact hlt) hbd]
        rw [hbd] at HW
        obtain ⟨f, hf⟩ : ∃ f, f = F t k := ⟨_, rfl⟩
        obtain ⟨s, hs⟩ : ∃ s, s = S t k := ⟨_, rfl⟩
        rw [← hf, ← hs] at HW
        rw [← hf] at p0
        rw [← hs] at p1
        clear hbd hf hs HN
        go_wp2_with fail
        ((with_reducible refine HW.out.mono ?_); rintro e w1 ⟨rfl, hd1⟩)
        have hD : Hid (Below base w0 w1) := hd.out.2.1.trans (hd1.out.1.below Hc.out (by rw [← Hb.out]; exact hd.out.2.1.size))
        clear hd hd1 HW
        go_wp2_with fail
        go_ret
        rw [HF.out]
        exact ⟨rfl, hD.out⟩
    · have HF : Hid (frst t (badI t) 0 = -1) := by show _ = _; rw [hd.out.1, frst_end (by rw [HL.out]; omega)]
      have hkl : k = len := by omega
      subst hkl
      go_wp2_with fail
      go_ret
      rw [HF.out]
      exact ⟨rfl, hd.out.2.1⟩
end Go.Proofs.Ytpibkjldmmecpaa
