/- What the laws lean on, in a few texts (by shake.py): number 1 of 1. -/
import Derived.Test.YtdjbnnjcifgnlaaCp1
import Derived.Test.YtdjbnnjcifgnlaaCp2
import Derived.Test.YtdjbnnjcifgnlaaCp3
import Derived.Test.YtdjbnnjcifgnlaaCp4
import Derived.Test.YtdjbnnjcifgnlaaCp5
import Derived.Test.YtdjbnnjcifgnlaaRows
import Derived.WalkKit
import Derived.Laws.Bits64b
import Derived.Test.YtdjbnnjcifgnlaaProg
import Derived.Test.YtdjbnnjcifgnlaaChecked
import Derived.WalkSpells
import Derived.WalkLawsBesides
import Derived.Handy
import Derived.BigQuiet
import Derived.Deep.QuietTactic
import Derived.Maps.AppendAt
import Derived.Deep.Draws
import Derived.Lib.IndexBytes
import Derived.OwnWalk
import Derived.Deep.RegionHeld3
import Derived.Deep.RegionLaw
import Derived.Deep.AppendLies
import Derived.Lib.ConvBytes
import Derived.Lib.Hide
import Derived.Deep.RegionWith
import Derived.Lib.BitFns
import Derived.Deep.DeepCutAuto
import Derived.Deep.CutBlock
import Derived.Shelf.Small.Bits
import Derived.Shelf.Strconv.Itoa0
import Derived.Shelf.Bits.Mul64
import Derived.Ground.SlgnProg
import Derived.Shelf.SlicesE.Compact
import Derived.Sort.Grow
import Derived.Sort.LotA
import Derived.OpenShut
import Derived.Deep.Slices
import Derived.Deep.Fields
import Derived.ChangeSame
import Derived.Shelf.SlSortCmp.KitK
import Derived.Deep.MidRow
import Derived.BigRegion
import Derived.Deep.LoopGhost
import Derived.Deep.CutRange
import Derived.Shelf.SlGeneric
import Derived.Shelf.SlSortCmp.InsertionK
import Derived.Shelf.SlicesE.Clone
import Derived.Ground.SlsfProg
import Derived.Laws.StructEq
import Derived.Shelf.SlSortCmp.Kit1
import Derived.Ground.NamesProg
import Derived.Deep.OwnRows
import Derived.Deep.WholeRow
import Derived.Maps.OwnSet
import Derived.Maps.OwnOps
import Derived.Deep.Cut
import Derived.Shelf.SlSortCmp.QuietGrown
import Derived.Laws.OwnMore
import Derived.Laws.AppendOwnNone
import Derived.Sort.AssemblyPlain

namespace Go.Proofs.Ytdjbnnjcifgnlaa

theorem trim_mod {lot q : Int} : trimN lot q % lot = 0 := by
  unfold trimN
  split
  · exact Int.zero_emod _
  · exact Int.mul_emod_left _ _

end Go.Proofs.Ytdjbnnjcifgnlaa

namespace Go.Proofs.Ytdjbnnjcifgnlaa
set_option linter.unusedSectionVars false
set_option linter.unusedVariables false
set_option linter.unusedSimpArgs false

section
variable {mode all lot : Int} {Q : List Int} (hl : 1 ≤ lot) (hQ : OkQ Q) (ha : 0 ≤ all) (haT : all ≤ sumT lot Q) (hT : 0 < sumT lot Q)
include hl hQ ha haT hT

end
theorem sumT_mod (lot : Int) (Q : List Int) : sumT lot Q % lot = 0 := by
  induction Q with
  | nil => exact Int.zero_emod _
  | cons q Q ih => exact Int.emod_eq_zero_of_dvd (Int.dvd_add (Int.dvd_of_emod_eq_zero trim_mod) (Int.dvd_of_emod_eq_zero ih))
theorem trim_own {lot q : Int} (h : 1 ≤ lot) (hq : 0 ≤ q) : q - q % lot = trimN lot q := by
  by_cases h1 : q < 1
  · have : q = 0 := by omega
    subst this
    rw [trim_no (.inr (by omega)), Int.zero_emod]; rfl
  · exact (trim_bd (lot := lot) (qty := q) h (by omega)).2.2.2.2.symm
end Go.Proofs.Ytdjbnnjcifgnlaa

namespace Go.Proofs.Ytdjbnnjcifgnlaa
set_option linter.unusedVariables false

/-- What the first one of a pair has traded; the second one. -/
def usB (k : Nat) : List (Nat × Nat × Int) → Int
  | [] => 0
  | x :: l => (if x.1 = k then x.2.2 else 0) + usB k l
def usS (k : Nat) : List (Nat × Nat × Int) → Int
  | [] => 0
  | x :: l => (if x.2.1 = k then x.2.2 else 0) + usS k l
def sumD : List (Nat × Nat × Int) → Int
  | [] => 0
  | x :: l => x.2.2 + sumD l
theorem usB_app (k : Nat) : ∀ A B, usB k (A ++ B) = usB k A + usB k B
  | [], B => by simp [usB]
  | x :: A, B => by simp only [List.cons_append, usB, usB_app k A B]; omega
theorem usS_app (k : Nat) : ∀ A B, usS k (A ++ B) = usS k A + usS k B
  | [], B => by simp [usS]
  | x :: A, B => by simp only [List.cons_append, usS, usS_app k A B]; omega
theorem sumD_app : ∀ A B, sumD (A ++ B) = sumD A + sumD B
  | [], B => by simp [sumD]
  | x :: A, B => by simp only [List.cons_append, sumD, sumD_app A B]; omega
def smF (f : Nat → Int) : Nat → Int
  | 0 => 0
  | k + 1 => smF f k + f k
theorem smF_up {f : Nat → Int} {b : Nat} {v : Int} : ∀ n, smF (upF f b v) n = smF f n + if b < n then v - f b else 0
  | 0 => by simp [smF]
  | n + 1 => by
    have ih := smF_up (f := f) (b := b) (v := v) n
    simp only [smF, ih]
    unfold upF
    by_cases e : n = b
    · subst e; rw [if_pos rfl, if_neg (by omega), if_pos (by omega)]; omega
    · rw [if_neg e]
      by_cases c : b < n
      · rw [if_pos c, if_pos (by omega)]; omega
      · rw [if_neg c, if_neg (by omega)]; omega
/-- Nothing is lost: what is left and what was traded is what there was. -/
structure DsSum (n m : Nat) (f0 g0 : Nat → Int) (S : DS) : Prop where
  b : ∀ k, S.f k + usB k S.D = f0 k
  s : ∀ k, S.g k + usS k S.D = g0 k
  x : smF S.f n + sumD S.D = smF f0 n
  y : smF S.g m + sumD S.D = smF g0 m
theorem dst_sum {n m b s : Nat} {f0 g0 : Nat → Int} {S : DS} (h : DsSum n m f0 g0 S) (hb : b < n) (hs : s < m) : DsSum n m f0 g0 (dst b s S) := by
  unfold dst
  split
  · exact h
  · generalize hq : min (S.f b) (S.g s) = q
    refine ⟨fun k => ?_, fun k => ?_, ?_, ?_⟩
    · show upF S.f b _ k + usB k (S.D ++ _) = _
      have := h.b k
      rw [usB_app]; simp only [usB]; unfold upF
      by_cases e : k = b
      · subst e; rw [if_pos rfl, if_pos rfl]; omega
      · rw [if_neg e, if_neg (fun x => e x.symm)]; omega
    · show upF S.g s _ k + usS k (S.D ++ _) = _
      have := h.s k
      rw [usS_app]; simp only [usS]; unfold upF
      by_cases e : k = s
      · subst e; rw [if_pos rfl, if_pos rfl]; omega
      · rw [if_neg e, if_neg (fun x => e x.symm)]; omega
    · show smF (upF S.f b _) n + sumD (S.D ++ _) = _
      have := h.x
      rw [smF_up, sumD_app, if_pos hb]; simp only [sumD]; omega
    · show smF (upF S.g s _) m + sumD (S.D ++ _) = _
      have := h.y
      rw [smF_up, sumD_app, if_pos hs]; simp only [sumD]; omega
theorem dIn_sum {n m b : Nat} {f0 g0 : Nat → Int} {S : DS} (h : DsSum n m f0 g0 S) (hb : b < n) : ∀ s, s ≤ m → DsSum n m f0 g0 (dIn b S s)
  | 0, _ => h
  | s + 1, hs => dst_sum (dIn_sum h hb s (by omega)) hb (by omega)
theorem dOut_sum {n m : Nat} {f0 g0 : Nat → Int} {S : DS} (h : DsSum n m f0 g0 S) : ∀ b, b ≤ n → DsSum n m f0 g0 (dOut S m b)
  | 0, _ => h
  | b + 1, hb => dIn_sum (dOut_sum h b (by omega)) (by omega) m (Nat.le_refl _)
/-- What is spent stays so. -/
theorem dst_less {f0 g0 : Nat → Int} {S : DS} (h : DsOk f0 g0 S) (b s : Nat) : (∀ k, (dst b s S).f k ≤ S.f k) ∧ (∀ k, (dst b s S).g k ≤ S.g k) ∧ min ((dst b s S).f b) ((dst b s S).g s) = 0 := by
  have hb := h.f1 b
  have hs := h.g1 s
  unfold dst
  split
  · rename_i e; exact ⟨fun _ => Int.le_refl _, fun _ => Int.le_refl _, e⟩
  · refine ⟨fun k => ?_, fun k => ?_, ?_⟩
    · show upF S.f b _ k ≤ _; unfold upF; split
      · rename_i e; subst e; omega
      · exact Int.le_refl _
    · show upF S.g s _ k ≤ _; unfold upF; split
      · rename_i e; subst e; omega
      · exact Int.le_refl _
    · show min (upF S.f b _ b) (upF S.g s _ s) = 0
      unfold upF; rw [if_pos rfl, if_pos rfl]; omega
theorem dIn_less {f0 g0 : Nat → Int} {S : DS} (h : DsOk f0 g0 S) (b : Nat) : ∀ s, (∀ k, (dIn b S s).f k ≤ S.f k) ∧ (∀ k, (dIn b S s).g k ≤ S.g k) ∧ ∀ j, j < s → min ((dIn b S s).f b) ((dIn b S s).g j) = 0
  | 0 => ⟨fun _ => Int.le_refl _, fun _ => Int.le_refl _, fun _ hj => absurd hj (Nat.not_lt_zero _)⟩
  | s + 1 => by
    obtain ⟨i1, i2, i3⟩ := dIn_less h b s
    have ho := dIn_ok h b s
    have ho1 := dst_ok ho b s
    obtain ⟨a1, a2, a3⟩ := dst_less ho b s
    refine ⟨fun k => Int.le_trans (a1 k) (i1 k), fun k => Int.le_trans (a2 k) (i2 k), fun j hj => ?_⟩
    show min ((dst b s (dIn b S s)).f b) ((dst b s (dIn b S s)).g j) = 0
    by_cases e : j = s
    · subst e; exact a3
    · have := i3 j (by omega)
      have x1 := a1 b; have x2 := a2 j; have x3 := ho1.f1 b; have x4 := ho1.g1 j
      omega
theorem dOut_less {f0 g0 : Nat → Int} {S : DS} (h : DsOk f0 g0 S) (m : Nat) : ∀ b, ∀ i, i < b → ∀ j, j < m → min ((dOut S m b).f i) ((dOut S m b).g j) = 0
  | 0, _, hi, _, _ => absurd hi (Nat.not_lt_zero _)
  | b + 1, i, hi, j, hj => by
    have ho := dOut_ok h m b
    obtain ⟨a1, a2, a3⟩ := dIn_less ho b m
    show min ((dIn b (dOut S m b) m).f i) ((dIn b (dOut S m b) m).g j) = 0
    by_cases e : i = b
    · subst e; exact a3 j hj
    · have := dOut_less h m b i (by omega) j hj
      have ho1 := dIn_ok ho b m
      have x1 := a1 i; have x2 := a2 j; have x3 := ho1.f1 i; have x4 := ho1.g1 j
      omega
theorem smF_zero {f : Nat → Int} (h : ∀ k, 0 ≤ f k) : ∀ n, 0 ≤ smF f n ∧ (smF f n = 0 → ∀ k, k < n → f k = 0)
  | 0 => ⟨Int.le_refl _, fun _ k hk => absurd hk (Nat.not_lt_zero _)⟩
  | n + 1 => by
    have ih := smF_zero h n
    have hn := h n
    simp only [smF]
    refine ⟨by omega, fun e k hk => ?_⟩
    by_cases c : k = n
    · subst c; omega
    · exact ih.2 (by omega) k (by omega)
theorem smF_none {f : Nat → Int} : ∀ n, (∀ k, k < n → f k = 0) → smF f n = 0
  | 0, _ => rfl
  | n + 1, h => by simp only [smF]; rw [smF_none n (fun k hk => h k (by omega)), h n (by omega)]; rfl
/-- What both sides have alike is traded whole. -/
theorem deals_all {n m : Nat} {f0 g0 : Nat → Int} (hf : ∀ k, 0 ≤ f0 k) (hg : ∀ k, 0 ≤ g0 k) (he : smF f0 n = smF g0 m) :
    let S := dOut ⟨f0, g0, []⟩ m n
    sumD S.D = smF f0 n ∧ (∀ k, k < n → usB k S.D = f0 k) ∧ (∀ k, k < m → usS k S.D = g0 k) := by
  intro S
  have h0 : DsOk f0 g0 ⟨f0, g0, []⟩ := ⟨fun k => ⟨hf k, Int.le_refl _⟩, fun k => ⟨hg k, Int.le_refl _⟩, fun x hx => absurd hx (List.not_mem_nil)⟩
  have hS : DsSum n m f0 g0 ⟨f0, g0, []⟩ := ⟨fun k => by simp [usB], fun k => by simp [usS], by simp [sumD], by simp [sumD]⟩
  have ho : DsOk f0 g0 S := dOut_ok h0 m n
  have hs : DsSum n m f0 g0 S := dOut_sum hS n (Nat.le_refl _)
  have hl : ∀ i, i < n → ∀ j, j < m → min (S.f i) (S.g j) = 0 := dOut_less h0 m n
  have hfz := smF_zero (f := S.f) (fun k => (ho.f1 k).1) n
  have hgz := smF_zero (f := S.g) (fun k => (ho.g1 k).1) m
  have hx := hs.x; have hy := hs.y
  have z : smF S.f n = 0 := by
    refine Classical.byContradiction fun c => ?_
    have : ∃ i, i < n ∧ S.f i ≠ 0 := Classical.byContradiction fun d => c (smF_none n fun k hk => Classical.byContradiction fun e => d ⟨k, hk, e⟩)
    obtain ⟨i, hi, hi0⟩ := this
    have hip := (ho.f1 i).1
    have gz : smF S.g m = 0 := smF_none m fun j hj => by
      have := hl i hi j hj; have := (ho.g1 j).1; omega
    omega
  refine ⟨by omega, fun k hk => ?_, fun k hk => ?_⟩
  · have := hs.b k; have := hfz.2 z k hk; omega
  · have := hs.s k; have := hgz.2 (by omega) k hk; omega
end Go.Proofs.Ytdjbnnjcifgnlaa

namespace Go.Proofs.Ytdjbnnjcifgnlaa
open Go.RowKit Go.Lib Go.Maps Go.Deep Go.Sort
set_option linter.unusedVariables false

theorem encT_len (x y : Od) (q : Int) : (encT x y q).length = 13 := rfl
theorem info_rtd : (Try.prog.info? 46).map (fun i => (i.zero, i.size, i.bytes)) = some (some (.agg (encT ⟨0, 0, 0, 0, 0, 0⟩ ⟨0, 0, 0, 0, 0, 0⟩ 0).toArray), 13, 104) := by kernel_rfl
set_option maxHeartbeats 4000000 in
set_option maxRecDepth 100000 in
theorem rDeals_c (A : Option Addr) (n c : Nat) (L : List Od) (p v mode lot : Int) (w : World) (HO : Ods w A n L) (hnc : n ≤ c) (hlot : InR lot) (hn1 : n ≤ 1000) :
    Calls Try.prog 15 #[.slice A n c, .int .i64 p, .int .i64 v, .int .i64 mode, .int .i64 lot] w (DlR 46 w L (dlS L p v mode lot)) := by
  have mixed : Try.prog.follows .mixedOrders = true := by kernel_rfl
  obtain ⟨i0, hi0, hz0, hz1, hz2⟩ := info_parts info_rtd
  have H1 := Lib.hid (rSide_c19 A n c L 1 p v mode lot w HO hnc hlot hn1)
  have H2 := Lib.hid (fun w1 (hb : Below w.heap.size w w1) => rSide_c19 A n c L 2 p v mode lot w1 (HO.below hb) hnc hlot hn1)
  cases hok : (bookO L && mayS v mode lot) with
  | false =>
    rw [hok] at H1 H2
    have e : dlS L p v mode lot = [] := by unfold dlS; rw [hok]; rfl
    rw [e]
    clear HO hlot hok e
    go_enter Try.func15, Try.ntmps15
    go_wp2_with fail
    ((with_reducible refine H1.out.mono ?_); rintro e w1 ⟨rfl, b1⟩)
    have H3 := Lib.hid (H2.out w1 b1)
    go_wp2_with fail
    ((with_reducible refine H3.out.mono ?_); rintro e w2 ⟨rfl, b2⟩)
    have B2 := Lib.hid (b1.trans (b2.mono b1.size))
    clear b1 b2 H1 H2 H3
    go_wp2_with fail
    go_loopg [13, 14] 0 (fun kx s13 s wr => s13 = .slice none 0 0 ∧ s = .int .i64 0 ∧ Hid (Below w.heap.size w wr))
    case atStart => exact ⟨rfl, rfl, B2⟩
    case round =>
      obtain ⟨rfl, rfl, hB⟩ := hrel
      go_wp2_with fail
      go_ret
      exact ⟨_, rfl, Lib.hid ⟨hB.out, World.ownsRow_nil _ _ _ _⟩⟩
  | true =>
    rw [hok] at H1 H2
    have hbk : bookO L = true := by cases h : bookO L with
      | true => rfl
      | false => rw [h] at hok; cases hok
    have hmy : mayS v mode lot = true := by rw [hbk] at hok; exact hok
    have hv0 : 0 ≤ v := by unfold mayS at hmy; simp only [Bool.and_eq_true, decide_eq_true_eq] at hmy; omega
    have hn : n ≤ 64 := by rw [← HO.1]; exact ((book_iff L).1 hbk).1
    have HL := Lib.hid HO.1
    have HH := Lib.hid HO
    have hso := sd_ok (p := p) (mode := mode) (lot := lot) hbk hv0
    have e : dlS L p v mode lot = (dOut ⟨(sdT L 1 p mode lot v n).1, (sdT L 2 p mode lot v n).1, []⟩ n n).D := by unfold dlS; rw [hok, HO.1]; rfl
    rw [HO.1] at hso
    obtain ⟨f0, hf0⟩ : ∃ f, f = (sdT L 1 p mode lot v n).1 := ⟨_, rfl⟩
    obtain ⟨g0, hg0⟩ : ∃ g, g = (sdT L 2 p mode lot v n).1 := ⟨_, rfl⟩
    rw [← hf0, ← hg0] at hso e
    rw [← hf0] at H1
    rw [← hg0] at H2
    have HOK := Lib.hid hso
    rw [e]
    clear HO hlot hok hbk hmy hv0 hso e hf0 hg0
    go_enter Try.func15, Try.ntmps15
    go_wp2_with fail
    ((with_reducible refine H1.out.mono ?_); rintro e w1 ⟨b1, rfl, hb1, h1⟩)
    have H3 := Lib.hid (H2.out w1 h1.out.1)
    go_wp2_with fail
    ((with_reducible refine H3.out.mono ?_); rintro e w2 ⟨b2, rfl, hb2, h2⟩)
    have B2 := Lib.hid (h1.out.1.trans (h2.out.1.mono h1.out.1.size))
    have HS0 : Hid (DlIn 46 w2 w2 b1 b2 n L (.slice none 0 0) ⟨f0, g0, []⟩) := Lib.hid ⟨Fr.refl _ _, ⟨Nat.lt_of_lt_of_le h1.out.2.lt h2.out.1.size, h2.out.2.lt, by have := h1.out.2.lt; omega⟩, h1.out.2.of_block (h2.out.1.block b1 h1.out.2.lt), h2.out.2, World.ownsRow_nil _ _ _ _⟩
    have hw1 : w.heap.size ≤ b1 := hb1
    have hw2 : w.heap.size ≤ b2 := Nat.le_trans h1.out.1.size hb2
    clear h1 h2 H1 H2 H3 hb1 hb2
    go_wp2_with fail
    go_loopg [13, 14] n (fun kx s13 so wr => ∃ (b : Nat) (vD : Value), vD = s13 ∧ so = .int .i64 (b : Int) ∧ b ≤ n ∧ n - b ≤ kx ∧ Hid (DlIn 46 w2 wr b1 b2 n L vD (dOut ⟨f0, g0, []⟩ n b)))
    case atStart => exact ⟨0, _, rfl, rfl, by omega, by omega, HS0⟩
    case round =>
      obtain ⟨b, vD0, rfl, rfl, hb, hbx, hI0⟩ := hrel
      clear HS0
      by_cases hbl : b < n
      · have hbI : (b : Int) < (n : Int) := by omega
        have hb0 : (0 : Int) ≤ (b : Int) := by omega
        go_wp2_with fail
        go_loopg [13, 15] n (fun kx s13 si wr => ∃ (s : Nat) (vD : Value), vD = s13 ∧ si = .int .i64 (s : Int) ∧ s ≤ n ∧ n - s ≤ kx ∧ Hid (DlIn 46 w2 wr b1 b2 n L vD (dIn b (dOut ⟨f0, g0, []⟩ n b) s)))
        case atStart => exact ⟨0, _, rfl, rfl, by omega, by omega, hI0⟩
        case round =>
          obtain ⟨s, vD, rfl, rfl, hs, hsx, HI⟩ := hrel
          clear hI0
          by_cases hsl : s < n
          · have hsI : (s : Int) < (n : Int) := by omega
            have hs0 : (0 : Int) ≤ (s : Int) := by omega
            have hok := dIn_ok (dOut_ok HOK.out.1 n b) b s
            have hfb := hok.f1 b
            have hgs := hok.g1 s
            have hfq := (HOK.out.2 b).1
            have hgq := (HOK.out.2 s).2
            obtain ⟨S, hS⟩ : ∃ S, S = dIn b (dOut ⟨f0, g0, []⟩ n b) s := ⟨_, rfl⟩
            have HN : Hid (dIn b (dOut ⟨f0, g0, []⟩ n b) (s + 1) = dst b s S) := Lib.hid (by rw [hS]; rfl)
            have HLen : Hid (S.D.length ≤ 8192) := Lib.hid (by
              have h1 := dIn_len b (dOut ⟨f0, g0, []⟩ n b) s
              have h2 := dOut_len ⟨f0, g0, []⟩ n b
              have h3 : b * n ≤ 64 * 64 := Nat.mul_le_mul (by omega) hn
              rw [hS]
              simp only [List.length_nil] at h2
              omega)
            rw [← hS] at HI hfb hgs
            have c1 : wr.cell? ⟨b1, b, none⟩ = some (.int .i64 (S.f b)) := HI.out.r1.cell hbl
            have c2 : wr.cell? ⟨b2, s, none⟩ = some (.int .i64 (S.g s)) := HI.out.r2.cell hsl
            obtain ⟨fb, hfb'⟩ : ∃ z, z = S.f b := ⟨_, rfl⟩
            obtain ⟨gs, hgs'⟩ : ∃ z, z = S.g s := ⟨_, rfl⟩
            rw [← hfb'] at c1 hfb
            rw [← hgs'] at c2 hgs
            obtain ⟨q, hq⟩ : ∃ q, min fb gs = q := ⟨_, rfl⟩
            have HQ : Hid (q = min (S.f b) (S.g s)) := Lib.hid (by rw [← hfb', ← hgs', hq])
            have HFG : Hid (fb = S.f b ∧ gs = S.g s) := Lib.hid ⟨hfb', hgs'⟩
            have hqb : 0 ≤ q ∧ q ≤ fb ∧ q ≤ gs := by omega
            have hfu : fb ≤ 1099511627776 := by omega
            have hgu : gs ≤ 1099511627776 := by omega
            have HRG := Lib.hid (And.intro hfb.1 (And.intro hgs.1 (And.intro hqb (And.intro hfu hgu))))
            clear hok hfq hgq hS hfb' hgs' hfb hgs hqb hfu hgu
            by_cases q0 : q = 0
            · have gq : (q == 0) = true := by simp [q0]
              have gq2 : decide (0 < q) = false := decide_eq_false (by omega)
              have hN : Hid (∀ k, DlIn 46 w2 (wr.drewN k) b1 b2 n L vD (dIn b (dOut ⟨f0, g0, []⟩ n b) (s + 1))) := Lib.hid (fun k => by
                rw [HN.out]
                unfold dst
                rw [if_pos (by rw [← HQ.out]; exact q0)]
                exact HI.out.drewN k)
              clear q0
              go_wp2_with fail
              go_quiet (fail)
              have hN2 := Lib.hid (hN.out nq)
              clear hN
              go_wp2_with fail
              go_roundg (n - (s + 1))
              case measure => omega
              case rel => exact ⟨s + 1, vD, rfl, by go_num, by omega, by omega, hN2⟩
            · have gq : (q == 0) = false := by simp [q0]
              have gq2 : decide (0 < q) = true := decide_eq_true (by have := HRG.out; omega)
              have hlenb : s < n := hsl
              have HO := HI.out.ods HH.out B2.out hw1 hw2
              obtain ⟨bb, off, rfl, hbb, hc⟩ : ∃ bb off, A = some ⟨bb, off, none⟩ ∧ bb < wr.heap.size ∧ ∀ i, i < n → (L[i]!).at wr bb (off + i * 6) := by
                rcases HO.2.2.2 with h | h
                · omega
                · exact h
              obtain ⟨x, ex⟩ : ∃ x, L[b]! = x := ⟨_, rfl⟩
              obtain ⟨y, ey⟩ : ∃ y, L[s]! = y := ⟨_, rfl⟩
              have HXY : Hid (x.at wr bb (off + b * 6) ∧ y.at wr bb (off + s * 6)) := Lib.hid ⟨by rw [← ex]; exact hc b hbl, by rw [← ey]; exact hc s hsl⟩
              have HEX := Lib.hid (And.intro ex ey)
              have HBB := Lib.hid hbb
              have HNO : Hid (some bb ≠ vD.ownBlock) := Lib.hid (fun e => by
                have h1 := (HI.out.d.lt bb e.symm).1
                obtain ⟨bb', off', e', h2, _⟩ : ∃ b' off', (some (⟨bb, off, none⟩ : Addr)) = some ⟨b', off', none⟩ ∧ b' < w.heap.size ∧ ∀ i, i < n → (L[i]!).at w b' (off' + i * 6) := by
                  rcases HH.out.2.2.2 with h | h
                  · omega
                  · exact h
                injection e' with e'; injection e' with e1 e2; subst e1
                have := B2.out.size; omega)
              have HQ0 := Lib.hid q0
              clear q0 HO hc ex ey hbb
              go_upto_region 10 with fail
              go_quiet (fail)
              have HZ : Hid (DlIn 46 w2 (wr.drewN nq) b1 b2 n L vD S ∧ (x.at (wr.drewN nq) bb (off + b * 6) ∧ y.at (wr.drewN nq) bb (off + s * 6)) ∧ bb < (wr.drewN nq).heap.size) := Lib.hid ⟨HI.out.drewN nq, HXY.out, HBB.out⟩
              clear HI HXY HBB c1 c2
              generalize wr.drewN nq = wz at HZ ⊢
              go_upto_region 12 with fail
              refine wp_region_held_drew (S := (fun w' => x.at w' bb (off + b * 6) ∧ y.at w' bb (off + s * 6))) (by kernel_rfl) (by first | assumption | exact HZ.out.2.1 | (dsimp only; exact HZ.out.2.1)) (fun hHeld => ?_)
              refine wpAnyH_take (i := 0) (oi := ⟨some 52, _, _, _, _, _⟩) (v := ?_) rfl (by kernel_rfl) (by kernel_rfl) (by kernel_rfl) (fun _ _ _ h => h) (Or.inl ⟨by kernel_rfl, ?_⟩) (by assumption) ?_
              rotate_left
              · (intro w hSw; (try dsimp only at hSw); go_simp; try with_reducible rfl)
              (repeat (first | simp only [Act.put] | simp only [List.setIfInBounds_toArray] | simp only [List.set_cons_succ] | simp only [List.set_cons_zero]))
              refine wpAnyH_take (i := 1) (oi := ⟨some 53, _, _, _, _, _⟩) (v := ?_) rfl (by kernel_rfl) (by kernel_rfl) (by kernel_rfl) (fun _ _ _ h => h) (Or.inl ⟨by kernel_rfl, ?_⟩) (by assumption) ?_
              rotate_left
              · (intro w hSw; (try dsimp only at hSw); go_simp; try with_reducible rfl)
              (repeat (first | simp only [Act.put] | simp only [List.setIfInBounds_toArray] | simp only [List.set_cons_succ] | simp only [List.set_cons_zero]))
              refine wpAnyH_take (i := 2) (oi := ⟨some 54, _, _, _, _, _⟩) (v := ?_) rfl (by kernel_rfl) (by kernel_rfl) (by kernel_rfl) (fun _ _ _ h => h) (Or.inl ⟨by kernel_rfl, ?_⟩) (by assumption) ?_
              rotate_left
              · (intro w hSw; (try dsimp only at hSw); go_simp; try with_reducible rfl)
              (repeat (first | simp only [Act.put] | simp only [List.setIfInBounds_toArray] | simp only [List.set_cons_succ] | simp only [List.set_cons_zero]))
              refine wpAnyH_take (i := 3) (oi := ⟨some 55, _, _, _, _, _⟩) (v := ?_) rfl (by kernel_rfl) (by kernel_rfl) (by kernel_rfl) (fun _ _ _ h => h) (Or.inl ⟨by kernel_rfl, ?_⟩) (by assumption) ?_
              rotate_left
              · (intro w hSw; (try dsimp only at hSw); go_simp; try with_reducible rfl)
              (repeat (first | simp only [Act.put] | simp only [List.setIfInBounds_toArray] | simp only [List.set_cons_succ] | simp only [List.set_cons_zero]))
              refine wpAnyH_take (i := 4) (oi := ⟨some 56, _, _, _, _, _⟩) (v := ?_) rfl (by kernel_rfl) (by kernel_rfl) (by kernel_rfl) (fun _ _ _ h => h) (Or.inl ⟨by kernel_rfl, ?_⟩) (by assumption) ?_
              rotate_left
              · (intro w hSw; obtain ⟨⟨q0, q1, q2, q3, q4, q5⟩, _⟩ := hSw; (try dsimp only at hSw); go_simp; try with_reducible rfl)
              (repeat (first | simp only [Act.put] | simp only [List.setIfInBounds_toArray] | simp only [List.set_cons_succ] | simp only [List.set_cons_zero]))
              refine wpAnyH_take (i := 5) (oi := ⟨some 57, _, _, _, _, _⟩) (v := ?_) rfl (by kernel_rfl) (by kernel_rfl) (by kernel_rfl) (fun _ _ _ h => h) (Or.inl ⟨by kernel_rfl, ?_⟩) (by assumption) ?_
              rotate_left
              · (intro w hSw; (try dsimp only at hSw); go_simp; try with_reducible rfl)
              (repeat (first | simp only [Act.put] | simp only [List.setIfInBounds_toArray] | simp only [List.set_cons_succ] | simp only [List.set_cons_zero]))
              refine wpAnyH_take (i := 6) (oi := ⟨some 58, _, _, _, _, _⟩) (v := ?_) rfl (by kernel_rfl) (by kernel_rfl) (by kernel_rfl) (fun _ _ _ h => h) (Or.inl ⟨by kernel_rfl, ?_⟩) (by assumption) ?_
              rotate_left
              · (intro w hSw; (try dsimp only at hSw); go_simp; try with_reducible rfl)
              (repeat (first | simp only [Act.put] | simp only [List.setIfInBounds_toArray] | simp only [List.set_cons_succ] | simp only [List.set_cons_zero]))
              refine wpAnyH_take (i := 7) (oi := ⟨some 59, _, _, _, _, _⟩) (v := ?_) rfl (by kernel_rfl) (by kernel_rfl) (by kernel_rfl) (fun _ _ _ h => h) (Or.inl ⟨by kernel_rfl, ?_⟩) (by assumption) ?_
              rotate_left
              · (intro w hSw; (try dsimp only at hSw); go_simp; try with_reducible rfl)
              (repeat (first | simp only [Act.put] | simp only [List.setIfInBounds_toArray] | simp only [List.set_cons_succ] | simp only [List.set_cons_zero]))
              refine wpAnyH_take (i := 8) (oi := ⟨some 60, _, _, _, _, _⟩) (v := ?_) rfl (by kernel_rfl) (by kernel_rfl) (by kernel_rfl) (fun _ _ _ h => h) (Or.inl ⟨by kernel_rfl, ?_⟩) (by assumption) ?_
              rotate_left
              · (intro w hSw; obtain ⟨_, q0, q1, q2, q3, q4, q5⟩ := hSw; (try dsimp only at hSw); go_simp; try with_reducible rfl)
              (repeat (first | simp only [Act.put] | simp only [List.setIfInBounds_toArray] | simp only [List.set_cons_succ] | simp only [List.set_cons_zero]))
              refine wpAnyH_take (i := 9) (oi := ⟨some 61, _, _, _, _, _⟩) (v := ?_) rfl (by kernel_rfl) (by kernel_rfl) (by kernel_rfl) (fun _ _ _ h => h) (Or.inl ⟨by kernel_rfl, ?_⟩) (by assumption) ?_
              rotate_left
              · (intro w hSw; (try dsimp only at hSw); go_simp; try with_reducible rfl)
              (repeat (first | simp only [Act.put] | simp only [List.setIfInBounds_toArray] | simp only [List.set_cons_succ] | simp only [List.set_cons_zero]))
              refine wpAnyH_take (i := 10) (oi := ⟨some 62, _, _, _, _, _⟩) (v := ?_) rfl (by kernel_rfl) (by kernel_rfl) (by kernel_rfl) (fun _ _ _ h => h) (Or.inl ⟨by kernel_rfl, ?_⟩) (by assumption) ?_
              rotate_left
              · (intro w hSw; (try dsimp only at hSw); go_simp; try with_reducible rfl)
              (repeat (first | simp only [Act.put] | simp only [List.setIfInBounds_toArray] | simp only [List.set_cons_succ] | simp only [List.set_cons_zero]))
              refine wpAnyH_ready (rs := [11]) (by kernel_rfl) (by simp) ?_
              refine AllReadyH.cons (o := ⟨some 63, _, _, _, _, _⟩) rfl (fun K hK => ?_) AllReadyH.nil
              go_simp
              refine hK.out _ _ (by first | assumption | exact at_two_alloc HZ.out.2.1 HZ.out.2.2 _) (fun hHeld => ?_)
              clear hK K
              (repeat (first | simp only [Act.put] | simp only [List.setIfInBounds_toArray] | simp only [List.set_cons_succ] | simp only [List.set_cons_zero]))
              refine wpAnyH_ready (rs := [12]) (by kernel_rfl) (by simp) ?_
              refine AllReadyH.cons (o := ⟨some 64, _, _, _, _, _⟩) rfl (fun K hK => ?_) AllReadyH.nil
              refine step_append_lies _ rfl _ _ 37 rfl w2.heap.size 46 i0 (.agg (encT ⟨0, 0, 0, 0, 0, 0⟩ ⟨0, 0, 0, 0, 0, 0⟩ 0).toArray) 13 104 Try.underlying37 hi0 hz0 hz1 hz2 rfl (by decide) vD _ _ rfl (own_alloc_drew HZ.out.1.d _) ⟨wz.heap.size, 0, none⟩ 1 1 (encT x y q) rfl rfl ?a1 (encT_one x y q) (by decide) ?a2 ?a3 ?a4 _ rfl ?_
              case a1 => exact trade_news _ _ x y q
              case a2 => unfold maxLen; have := HLen.out; omega
              case a3 => have := HLen.out; omega
              case a4 => have := HZ.out.1.fr.size; simp; omega
              intro gE cE w3 hown3 hg3 _ _
              have HG3 := Lib.hid hg3
              have HO3 := Lib.hid hown3
              clear hown3 hg3
              refine hK.out _ _ (by exact at_two_grown HZ.out.2.1 HZ.out.2.2 HG3.out HNO.out) (fun hHeld => ?_)
              clear hK K
              (repeat (first | simp only [Act.put] | simp only [List.setIfInBounds_toArray] | simp only [List.set_cons_succ] | simp only [List.set_cons_zero]))
              refine wpAnyH_take (i := 13) (oi := ⟨some 13, _, _, _, _, _⟩) (v := ?_) rfl (by kernel_rfl) (by kernel_rfl) (by kernel_rfl) (fun _ _ _ h => h) (Or.inl ⟨by kernel_rfl, ?_⟩) (by assumption) ?_
              rotate_left
              · (intro w hSw; (try dsimp only at hSw); go_simp; try with_reducible rfl)
              (repeat (first | simp only [Act.put] | simp only [List.setIfInBounds_toArray] | simp only [List.set_cons_succ] | simp only [List.set_cons_zero]))
              refine wpAnyH_done (by kernel_rfl) ?_ _
              obtain ⟨d1, d2, d3, d4⟩ := HZ.out.1.rows3 (q := .int .i64 (S.f b - q)) _ (grown_of_drew HG3.out) hbl hsl
              have ew1 : IntKind.i64.wrap (fb - q) = fb - q := by have := HRG.out; rw [IntKind.wrap_i64]; omega
              have ew2 : IntKind.i64.wrap (gs - q) = gs - q := by have := HRG.out; rw [IntKind.wrap_i64]; omega
              have hN : Hid (DlIn 46 w2 ((w3.setCell ⟨b1, b, none⟩ (.int .i64 (fb - q))).setCell ⟨b2, s, none⟩ (.int .i64 (gs - q))) b1 b2 n L (.slice (some ⟨gE, 0, none⟩) (S.D.length + 1) cE) (dIn b (dOut ⟨f0, g0, []⟩ n b) (s + 1))) := Lib.hid (by
                rw [HN.out, HFG.out.1, HFG.out.2]
                refine HZ.out.1.more _ ?_ (grown_of_drew HG3.out) HQ.out HQ0.out hbl hsl
                rw [HEX.out.1, HEX.out.2]; exact HO3.out)
              rw [← HFG.out.1] at d1 d3 d4
              rw [← HFG.out.2] at d3
              have hr1 := HRG.out
              obtain ⟨r1, r2, ⟨r3, r4, r5⟩, r6, r7⟩ := hr1
              clear HG3 HO3 HZ
              go_wp2_with fail
              go_roundg (n - (s + 1))
              case measure => omega
              case rel => exact ⟨s + 1, _, rfl, by go_num, by omega, by omega, hN⟩
          · have hsI : ¬ (s : Int) < (n : Int) := by omega
            obtain rfl : s = n := by omega
            go_wp2_with fail
            go_roundg (s - (b + 1))
            case measure => omega
            case rel => exact ⟨b + 1, vD, rfl, by go_num, by omega, by omega, HI⟩
      · have hbI : ¬ (b : Int) < (n : Int) := by omega
        obtain rfl : b = n := by omega
        have hF := Lib.hid (And.intro (B2.out.trans (hI0.out.fr.below (B := w.heap.size) (fun k hk => by rcases hk with rfl | rfl <;> omega) B2.out.size)) (own_down hI0.out.d B2.out.size))
        go_wp2_with fail
        go_ret
        exact ⟨_, rfl, Lib.hid hF.out⟩
end Go.Proofs.Ytdjbnnjcifgnlaa

namespace Go.Proofs.Ytdjbnnjcifgnlaa
open Go.RowKit Go.Lib Go.Maps Go.Deep Go.Sort
set_option linter.unusedVariables false

/-- The cells of one trade. -/
def TrAt (w : World) (k i : Nat) (x y : Od) (q : Int) : Prop := ∀ j u, (encT x y q)[j]? = some u → w.cell? ⟨k, i * 13 + j, none⟩ = some u
theorem dl_get (L : List Od) : ∀ (D : List (Nat × Nat × Int)) (i j : Nat), i < D.length → j < 13 → (dl L D)[i * 13 + j]? = (encT L[(D[i]!).1]! L[(D[i]!).2.1]! (D[i]!).2.2)[j]?
  | [], i, _, h, _ => absurd h (Nat.not_lt_zero _)
  | d :: D, 0, j, _, hj => by
    unfold dl
    rw [List.flatMap_cons, Nat.zero_mul, Nat.zero_add, List.getElem?_append_left (by rw [encT_len]; exact hj)]; rfl
  | d :: D, i + 1, j, h, hj => by
    have ih := dl_get L D i j (by simpa using h) hj
    unfold dl at ih ⊢
    rw [List.flatMap_cons, List.getElem?_append_right (by rw [encT_len]; omega), encT_len, show (i + 1) * 13 + j - 13 = i * 13 + j by omega, ih]
    simp
/-- The trades as they lie, to be read. -/
def DlAt (w : World) (v : Value) (L : List Od) (D : List (Nat × Nat × Int)) : Prop := (D.length = 0 ∧ ∃ A c, v = .slice A 0 c) ∨ ∃ k cap, v = .slice (some ⟨k, 0, none⟩) D.length cap ∧ k < w.heap.size ∧ ∀ i, i < D.length → TrAt w k i L[(D[i]!).1]! L[(D[i]!).2.1]! (D[i]!).2.2
theorem DlAt.of {w : World} {base : Nat} {T : TypeId} {v : Value} {L : List Od} {D : List (Nat × Nat × Int)} (h : w.ownsRow base T 13 v D.length (dl L D)) : DlAt w v L D := by
  by_cases h0 : D.length = 0
  · left
    refine ⟨h0, ?_⟩
    obtain ⟨_, h2⟩ := h
    rcases h2 with ⟨hv, _⟩ | ⟨k, cap, cur, hv, _⟩
    · exact ⟨_, _, hv⟩
    · rw [h0] at hv; exact ⟨_, _, hv⟩
  · right
    obtain ⟨k, cap, hv, _, hk, _, hc⟩ := own_cells h (by omega)
    refine ⟨k, cap, hv, hk, fun i hi j u hu => hc (i * 13 + j) u ?_⟩
    have hj : j < 13 := by have := (List.getElem?_eq_some_iff.1 hu).1; rw [encT_len] at this; exact this
    rw [dl_get L D i j hi hj]; exact hu
theorem TrAt.below {w w' : World} {k i : Nat} {x y : Od} {q : Int} (h : TrAt w k i x y q) (hk : k < w.heap.size) (hb : Below w.heap.size w w') : TrAt w' k i x y q :=
  fun j u hu => (hb.cell (p := ⟨k, i * 13 + j, none⟩) hk).trans (h j u hu)
theorem DlAt.below {w w' : World} {v : Value} {L : List Od} {D : List (Nat × Nat × Int)} (h : DlAt w v L D) (hb : Below w.heap.size w w') : DlAt w' v L D := by
  rcases h with h | ⟨k, cap, hv, hk, hc⟩
  · exact .inl h
  · exact .inr ⟨k, cap, hv, Nat.lt_of_lt_of_le hk hb.size, fun i hi => (hc i hi).below hk hb⟩
theorem DlAt.len {w : World} {v : Value} {L : List Od} {D : List (Nat × Nat × Int)} (h : DlAt w v L D) : ∃ A c, v = .slice A D.length c := by
  rcases h with ⟨h0, A, c, hv⟩ | ⟨k, cap, hv, _⟩
  · exact ⟨A, c, by rw [hv, h0]⟩
  · exact ⟨_, _, hv⟩
theorem dlS_len (L : List Od) (p v mode lot : Int) : (dlS L p v mode lot).length ≤ 4096 := by
  unfold dlS
  split
  · rename_i h
    have hb : bookO L = true := by cases e : bookO L with
      | true => rfl
      | false => rw [e] at h; cases h
    have h64 := ((book_iff L).1 hb).1
    have := dOut_len ⟨(sdT L 1 p mode lot v L.length).1, (sdT L 2 p mode lot v L.length).1, []⟩ L.length L.length
    have h3 : L.length * L.length ≤ 64 * 64 := Nat.mul_le_mul h64 h64
    simp only [List.length_nil] at this
    omega
  · exact Nat.zero_le _
theorem neqSelf (x : Od) (w : World) : (binOp .neq 41 (.agg (OC x)) (.agg (OC x))).run Try.prog w = .ok (.bool false) w := by
  rw [neqR, (eqO_iff x x).2 rfl]; rfl
theorem eqSelf (x : Od) (w : World) : (Op.equalIn 10000 41 (.agg (OC x)) (.agg (OC x))).run Try.prog w = .ok true w := by
  rw [eq_ordR, (eqO_iff x x).2 rfl]
set_option maxHeartbeats 4000000 in
set_option maxRecDepth 100000 in
theorem deals_w (A : Option Addr) (n c : Nat) (L : List Od) (p v mode lot : Int) (hlot : InR lot) (w : World) (HO : Ods w A n L) (hnc : n ≤ c) :
    Calls Try.prog 5 #[.slice A n c, .int .i64 p, .int .i64 v, .int .i64 mode, .int .i64 lot] w fun e w' => e = .returned (.bool true) ∧ Below w.heap.size w w' := by
  by_cases h1 : 100 < n
  · have h1I : (100 : Int) < (n : Int) := by omega
    clear HO
    go_enter Try.func5, Try.ntmps5
    go_wp2_with ((with_reducible refine (lives19_c _).mono ?_); rintro e w5 ⟨rfl, b5⟩)
    go_ret
    exact ⟨rfl, b5⟩
  have h1I : ¬ (100 : Int) < (n : Int) := by omega
  have hn : n ≤ 100 := by omega
  have H1 := Lib.hid (deals_c A n c L p v mode lot w HO hnc hlot (by omega))
  have HP := Lib.hid (fun w1 (hb : Below w.heap.size w w1) => plain_c A n c L w1 (HO.below hb) (by omega))
  have HLn := Lib.hid HO.1
  have H2 := Lib.hid (fun (B : Option Addr) (c' : Nat) (w2 : World) (h : Ods w2 B n L) (hc : n ≤ c') => rDeals_c B n c' L p v mode lot w2 h hc hlot (by omega))
  have hlen := dlS_len L p v mode lot
  clear HO h1 hlot
  generalize dlS L p v mode lot = D at H1 H2 hlen
  go_enter Try.func5, Try.ntmps5
  go_wp2_with fail
  ((with_reducible refine H1.out.mono ?_); rintro e w1 ⟨vD, rfl, h1⟩)
  have H3 := Lib.hid (HP.out w1 h1.out.1)
  have B1 := Lib.hid h1.out.1
  have R1 := Lib.hid (DlAt.of h1.out.2)
  clear h1 H1 HP
  obtain ⟨A1, c1, rfl⟩ := R1.out.len
  go_wp2_with fail
  ((with_reducible refine H3.out.mono ?_); rintro e w2 ⟨B, n', c', rfl, h2⟩)
  obtain rfl : n = n' := by rw [← HLn.out]; exact h2.out.2.1.1
  have H4 := Lib.hid (H2.out B c' w2 h2.out.2.1 h2.out.2.2.1)
  have B2 := Lib.hid (B1.out.trans (h2.out.1.mono B1.out.size))
  have R2 := Lib.hid (R1.out.below h2.out.1)
  clear h2 H2 H3 R1
  go_wp2_with fail
  ((with_reducible refine H4.out.mono ?_); rintro e w3 ⟨vE, rfl, h3⟩)
  have B3 := Lib.hid (B2.out.trans (h3.out.1.mono B2.out.size))
  have R3 := Lib.hid (R2.out.below h3.out.1)
  have S3 := Lib.hid (DlAt.of h3.out.2)
  clear h3 H4 R2
  obtain ⟨A2, c2, rfl⟩ := S3.out.len
  obtain ⟨m, hm⟩ : ∃ m, m = D.length := ⟨_, rfl⟩
  rw [← hm] at hlen
  rw [← hm]
  have HM := Lib.hid hm
  have emm : ((m : Int) == (m : Int)) = true := by simp
  have emm2 : ((m : Int) != (m : Int)) = false := by simp
  clear hm
  go_wp2_with fail
  go_loopg [38] m (fun kx s38 wr => ∃ k : Nat, s38 = .int .i64 (k : Int) ∧ k ≤ m ∧ m - k ≤ kx ∧ Hid (Below w3.heap.size w3 wr))
  case atStart => exact ⟨0, rfl, by omega, by omega, Lib.hid (Below.refl _ _)⟩
  case round =>
    obtain ⟨k, rfl, hk, hkx, hB⟩ := hrel
    by_cases hlt : k < m
    · have hltI : (k : Int) < (m : Int) := by omega
      have hk0 : (0 : Int) ≤ (k : Int) := by omega
      have hb1 := R3.out.below hB.out
      have hb2 := S3.out.below hB.out
      obtain ⟨k1, rfl, hc1⟩ : ∃ k1, A1 = some ⟨k1, 0, none⟩ ∧ TrAt wr k1 k L[(D[k]!).1]! L[(D[k]!).2.1]! (D[k]!).2.2 := by
        rcases hb1 with ⟨h0, _⟩ | ⟨k1, cap, hv, _, hc⟩
        · have := HM.out; omega
        · injection hv with hv _ _; exact ⟨k1, hv, hc k (by rw [← HM.out]; exact hlt)⟩
      obtain ⟨k2, rfl, hc2⟩ : ∃ k2, A2 = some ⟨k2, 0, none⟩ ∧ TrAt wr k2 k L[(D[k]!).1]! L[(D[k]!).2.1]! (D[k]!).2.2 := by
        rcases hb2 with ⟨h0, _⟩ | ⟨k2, cap, hv, _, hc⟩
        · have := HM.out; omega
        · injection hv with hv _ _; exact ⟨k2, hv, hc k (by rw [← HM.out]; exact hlt)⟩
      generalize L[(D[k]!).1]! = x at hc1 hc2
      generalize L[(D[k]!).2.1]! = y at hc1 hc2
      generalize (D[k]!).2.2 = q at hc1 hc2
      have a0 : wr.cell? ⟨k1, k * 13, none⟩ = some (.int .u64 x.id) := hc1 0 _ rfl
      have a1 : wr.cell? ⟨k1, k * 13 + 1, none⟩ = some (.int .i64 x.acc) := hc1 1 _ rfl
      have a2 : wr.cell? ⟨k1, k * 13 + 2, none⟩ = some (.int .i64 x.side) := hc1 2 _ rfl
      have a3 : wr.cell? ⟨k1, k * 13 + 3, none⟩ = some (.int .i64 x.price) := hc1 3 _ rfl
      have a4 : wr.cell? ⟨k1, k * 13 + 4, none⟩ = some (.int .i64 x.qty) := hc1 4 _ rfl
      have a5 : wr.cell? ⟨k1, k * 13 + 5, none⟩ = some (.int .u64 x.seq) := hc1 5 _ rfl
      have a6 : wr.cell? ⟨k1, k * 13 + 6, none⟩ = some (.int .u64 y.id) := hc1 6 _ rfl
      have a7 : wr.cell? ⟨k1, k * 13 + 7, none⟩ = some (.int .i64 y.acc) := hc1 7 _ rfl
      have as7 : wr.cell? ⟨k1, k * 13 + 6 + 1, none⟩ = some (.int .i64 y.acc) := hc1 7 _ rfl
      have a8 : wr.cell? ⟨k1, k * 13 + 8, none⟩ = some (.int .i64 y.side) := hc1 8 _ rfl
      have as8 : wr.cell? ⟨k1, k * 13 + 6 + 2, none⟩ = some (.int .i64 y.side) := hc1 8 _ rfl
      have a9 : wr.cell? ⟨k1, k * 13 + 9, none⟩ = some (.int .i64 y.price) := hc1 9 _ rfl
      have as9 : wr.cell? ⟨k1, k * 13 + 6 + 3, none⟩ = some (.int .i64 y.price) := hc1 9 _ rfl
      have a10 : wr.cell? ⟨k1, k * 13 + 10, none⟩ = some (.int .i64 y.qty) := hc1 10 _ rfl
      have as10 : wr.cell? ⟨k1, k * 13 + 6 + 4, none⟩ = some (.int .i64 y.qty) := hc1 10 _ rfl
      have a11 : wr.cell? ⟨k1, k * 13 + 11, none⟩ = some (.int .u64 y.seq) := hc1 11 _ rfl
      have as11 : wr.cell? ⟨k1, k * 13 + 6 + 5, none⟩ = some (.int .u64 y.seq) := hc1 11 _ rfl
      have a12 : wr.cell? ⟨k1, k * 13 + 12, none⟩ = some (.int .i64 q) := hc1 12 _ rfl
      have d0 : wr.cell? ⟨k2, k * 13, none⟩ = some (.int .u64 x.id) := hc2 0 _ rfl
      have d1 : wr.cell? ⟨k2, k * 13 + 1, none⟩ = some (.int .i64 x.acc) := hc2 1 _ rfl
      have d2 : wr.cell? ⟨k2, k * 13 + 2, none⟩ = some (.int .i64 x.side) := hc2 2 _ rfl
      have d3 : wr.cell? ⟨k2, k * 13 + 3, none⟩ = some (.int .i64 x.price) := hc2 3 _ rfl
      have d4 : wr.cell? ⟨k2, k * 13 + 4, none⟩ = some (.int .i64 x.qty) := hc2 4 _ rfl
      have d5 : wr.cell? ⟨k2, k * 13 + 5, none⟩ = some (.int .u64 x.seq) := hc2 5 _ rfl
      have d6 : wr.cell? ⟨k2, k * 13 + 6, none⟩ = some (.int .u64 y.id) := hc2 6 _ rfl
      have d7 : wr.cell? ⟨k2, k * 13 + 7, none⟩ = some (.int .i64 y.acc) := hc2 7 _ rfl
      have ds7 : wr.cell? ⟨k2, k * 13 + 6 + 1, none⟩ = some (.int .i64 y.acc) := hc2 7 _ rfl
      have d8 : wr.cell? ⟨k2, k * 13 + 8, none⟩ = some (.int .i64 y.side) := hc2 8 _ rfl
      have ds8 : wr.cell? ⟨k2, k * 13 + 6 + 2, none⟩ = some (.int .i64 y.side) := hc2 8 _ rfl
      have d9 : wr.cell? ⟨k2, k * 13 + 9, none⟩ = some (.int .i64 y.price) := hc2 9 _ rfl
      have ds9 : wr.cell? ⟨k2, k * 13 + 6 + 3, none⟩ = some (.int .i64 y.price) := hc2 9 _ rfl
      have d10 : wr.cell? ⟨k2, k * 13 + 10, none⟩ = some (.int .i64 y.qty) := hc2 10 _ rfl
      have ds10 : wr.cell? ⟨k2, k * 13 + 6 + 4, none⟩ = some (.int .i64 y.qty) := hc2 10 _ rfl
      have d11 : wr.cell? ⟨k2, k * 13 + 11, none⟩ = some (.int .u64 y.seq) := hc2 11 _ rfl
      have ds11 : wr.cell? ⟨k2, k * 13 + 6 + 5, none⟩ = some (.int .u64 y.seq) := hc2 11 _ rfl
      have d12 : wr.cell? ⟨k2, k * 13 + 12, none⟩ = some (.int .i64 q) := hc2 12 _ rfl
      have q1 := neqSelf x
      have q2 := neqSelf y
      have q3 := eqSelf x
      have q4 := eqSelf y
      have q5 : (q != q) = false := by simp
      clear hc1 hc2 hb1 hb2
      go_wp2_with fail
      go_quiet (fail)
      have hN : Hid (Below w3.heap.size w3 (wr.drewN nq)) := Lib.hid (below_drewN hB.out nq)
      go_wp2_with fail
      go_roundg (m - (k + 1))
      case measure => omega
      case rel => exact ⟨k + 1, by go_num, by omega, by omega, hN⟩
    · have hltI : ¬ (k : Int) < (m : Int) := by omega
      obtain rfl : k = m := by omega
      have B4 := Lib.hid (B3.out.trans (hB.out.mono B3.out.size))
      clear hB R3 S3
      go_wp2_with ((with_reducible refine (lives19_c _).mono ?_); rintro e w5 ⟨rfl, b5⟩)
      go_ret
      exact ⟨rfl, B4.out.trans (b5.mono B4.out.size)⟩
end Go.Proofs.Ytdjbnnjcifgnlaa

namespace Go.Proofs.Ytdjbnnjcifgnlaa
open Go.Sort
set_option linter.unusedVariables false
set_option linter.unusedSectionVars false

theorem sortO_pair (L : List Od) : (sortO L).Pairwise (fun x y => ltO y x = false) := by
  have hR := swo_ltR swo_ltO
  have hm : (L.zipIdx.mergeSort (fun x y => !ltR ltO y x)).Pairwise (fun x y => ltR ltO y x = false) := by
    have := List.pairwise_mergeSort (le := fun x y => !ltR ltO y x) (fun a b c h1 h2 => by
      simp only [Bool.not_eq_true'] at *; exact hR.ntrans _ _ _ h2 h1) (fun a b => by
      cases h : ltR ltO b a with
      | true => have := hR.asymmA h; simp [this]
      | false => simp) L.zipIdx
    exact this.imp (fun h => by simpa using h)
  unfold sortO
  rw [List.pairwise_map]
  exact hm.imp (fun h => (ltR_no.1 h).1)
/-- Of one side the better price stands ahead. -/
theorem book_ahead {L : List Od} (hb : bookO L = true) {i j : Nat} (hij : i ≤ j) (hj : j < L.length) (hs : (L[i]!).side = (L[j]!).side) : wnO L[i]! (L[j]!).price = true := by
  obtain ⟨_, hg, _, hso⟩ := (book_iff L).1 hb
  have hgi := good_qty (hg L[i]! (by rw [getElem!_pos L i (by omega)]; exact List.getElem_mem _))
  have key : i = j ∨ ltO L[j]! L[i]! = false := by
    by_cases e : i = j
    · exact .inl e
    · right
      have hp := sortO_pair L
      rw [← hso, List.pairwise_iff_getElem] at hp
      have := hp i j (by omega) hj (by omega)
      rw [getElem!_pos L i (by omega), getElem!_pos L j hj]; exact this
  unfold wnO croN
  rcases key with e | e
  · subst e
    generalize L[i]! = x at *
    rcases hgi.2.1 with h | h <;> simp [h]
  · rw [ltO_no] at e
    generalize L[i]! = x at *
    generalize L[j]! = y at *
    unfold Lex kpO rkN at e
    rcases hgi.2.1 with h | h
    · rw [← hs, h] at e; simp at e; simp [h]; omega
    · rw [← hs, h] at e; simp at e; simp [h]; omega
theorem smF_ovr {f : Nat → Int} {i r : Nat} {g : Nat → Int} (hz : ∀ k, i ≤ k → k < i + r → f k = 0) : ∀ n, i + r ≤ n → smF (ovr f i r g) n = smF f n + smF g r := by
  have low : ∀ n, n ≤ i → smF (ovr f i r g) n = smF f n := by
    intro n
    induction n with
    | zero => intro _; rfl
    | succ n ih => intro h; simp only [smF, ih (by omega)]; unfold ovr; rw [if_neg (by omega)]
  have mid : ∀ j, j ≤ r → smF (ovr f i r g) (i + j) = smF f (i + j) + smF g j := by
    intro j
    induction j with
    | zero => intro _; show smF _ i = smF f i + 0; rw [low i (Nat.le_refl _)]; omega
    | succ j ih =>
      intro h
      show smF (ovr f i r g) (i + j) + ovr f i r g (i + j) = smF f (i + j) + f (i + j) + (smF g j + g j)
      rw [ih (by omega), hz (i + j) (by omega) (by omega)]
      unfold ovr; rw [if_pos (by omega), show i + j - i = j by omega]; omega
  intro n hn
  obtain ⟨m, rfl⟩ : ∃ m, n = i + r + m := ⟨n - (i + r), by omega⟩
  clear hn
  induction m with
  | zero => exact mid r (Nat.le_refl _)
  | succ m ih =>
    show smF (ovr f i r g) (i + r + m) + ovr f i r g (i + r + m) = smF f (i + r + m) + f (i + r + m) + smF g r
    rw [ih]; unfold ovr; rw [if_neg (by omega)]; omega
theorem gtS_smF (mode lot v : Int) (Q : List Int) : ∀ k, gtS mode lot v Q k = smF (gtN mode lot v Q) k
  | 0 => rfl
  | k + 1 => by
    show gtS mode lot v Q k + gtN mode lot v Q k = smF _ k + gtN mode lot v Q k
    rw [gtS_smF mode lot v Q k]
/-- All have whole lots. -/
def Whl (L : List Od) (lot : Int) : Prop := ∀ x ∈ L, x.qty % lot = 0
theorem trim_whole {lot q : Int} (h : 1 ≤ lot) (hq : 0 ≤ q) (hm : q % lot = 0) : trimN lot q = q := by
  rw [← trim_own h hq]; omega
theorem bang_mem {L : List Od} {i : Nat} (h : i < L.length) : L[i]! ∈ L := by rw [getElem!_pos L i h]; exact List.getElem_mem _
/-- What a run has, by whole lots. -/
theorem run_sum {L : List Od} {lot s p : Int} (hl : 1 ≤ lot) (hq : QtyOk L) (hw : Whl L lot) {i : Nat} (hi : i < L.length) (hs : (L[i]!).side = s) (hp : wnO L[i]! p = true) : ∀ j, j ≤ rlA L i → allS s p (L.take (i + j)) = allS s p (L.take i) + sumT lot ((Qat L i).take j)
  | 0, _ => by simp [sumT]
  | j + 1, hj => by
    have ih := run_sum hl hq hw hi hs hp j (by omega)
    have hr := rlA_le L hi
    have hk : i + j < L.length := by omega
    rw [← Nat.add_assoc, allS_take s p hk, ih, sumT_take lot (Qat L i) j (by rw [Qat_len hi]; omega), Qat_sub hi (by omega)]
    have hsm := smO_iff.1 ((rlA_spec hi).1 j (by omega))
    have hqb := hq _ (bang_mem hk)
    rw [trim_whole hl hqb.1 (hw _ (bang_mem hk))]
    unfold wnQ
    rw [if_pos ⟨hsm.1.trans hs, by unfold wnO at hp ⊢; rw [hsm.1, hsm.2]; exact hp⟩]
    omega
theorem run_none {L : List Od} {s p : Int} {i : Nat} (hi : i < L.length) (h : ¬ ((L[i]!).side = s ∧ wnO L[i]! p = true)) : ∀ j, j ≤ rlA L i → allS s p (L.take (i + j)) = allS s p (L.take i)
  | 0, _ => rfl
  | j + 1, hj => by
    have ih := run_none hi h j (by omega)
    have hr := rlA_le L hi
    have hk : i + j < L.length := by omega
    rw [← Nat.add_assoc, allS_take s p hk, ih]
    have hsm := smO_iff.1 ((rlA_spec hi).1 j (by omega))
    unfold wnQ
    rw [if_neg]
    · omega
    · rintro ⟨a, b⟩
      refine h ⟨hsm.1.symm.trans a, ?_⟩
      unfold wnO at b ⊢; rw [← hsm.1, ← hsm.2]; exact b
theorem allS_mono {L : List Od} (hq : QtyOk L) (s p p' : Int) : ∀ k m, k ≤ m → m ≤ L.length → (∀ j, j < k → (L[j]!).side = s → wnO L[j]! p' = true) → allS s p (L.take k) ≤ allS s p' (L.take m) := by
  have one : ∀ k, k ≤ L.length → (∀ j, j < k → (L[j]!).side = s → wnO L[j]! p' = true) → allS s p (L.take k) ≤ allS s p' (L.take k) := by
    intro k
    induction k with
    | zero => intro _ _; exact Int.le_refl _
    | succ k ih =>
      intro hk h
      rw [allS_take s p (by omega), allS_take s p' (by omega)]
      have := ih (by omega) (fun j hj => h j (by omega))
      have hqb := hq _ (bang_mem (L := L) (i := k) (by omega))
      have hw := h k (by omega)
      have : wnQ L[k]! s p ≤ wnQ L[k]! s p' := by
        unfold wnQ
        by_cases c : (L[k]!).side = s
        · rw [if_pos (show (L[k]!).side = s ∧ wnO L[k]! p' = true from ⟨c, hw c⟩)]; split <;> omega
        · rw [if_neg (fun x => c x.1), if_neg (fun x => c x.1)]; omega
      omega
  have two : ∀ d k, k + d ≤ L.length → allS s p' (L.take k) ≤ allS s p' (L.take (k + d)) := by
    intro d
    induction d with
    | zero => intro k _; exact Int.le_refl _
    | succ d ih =>
      intro k hk
      have := ih k (by omega)
      rw [← Nat.add_assoc, allS_take s p' (by omega)]
      have := (wnQ_bd (hq _ (bang_mem (L := L) (i := k + d) (by omega))) s p').1
      omega
  intro k m hkm hm h
  have h1 := one k (by omega) h
  have h2 := two (m - k) k (by omega)
  rw [show k + (m - k) = m by omega] at h2
  omega
theorem smF_le {g h : Nat → Int} : ∀ r, (∀ k, k < r → g k ≤ h k) → smF g r ≤ smF h r
  | 0, _ => Int.le_refl _
  | r + 1, hh => by have := smF_le r (fun k hk => hh k (by omega)); have := hh r (by omega); simp only [smF]; omega
theorem smF_lt {g h : Nat → Int} : ∀ r, (∀ k, k < r → g k ≤ h k) → (∃ k, k < r ∧ g k < h k) → smF g r < smF h r
  | 0, _, ⟨k, hk, _⟩ => absurd hk (Nat.not_lt_zero _)
  | r + 1, hh, ⟨k, hk, hlt⟩ => by
    have h1 := hh r (by omega)
    have h3 := smF_le r (fun k hk => hh k (by omega))
    simp only [smF]
    by_cases e : k = r
    · subst e; omega
    · have := smF_lt r (fun k hk => hh k (by omega)) ⟨k, by omega, hlt⟩; omega
theorem sumT_smF (lot : Int) (Q : List Int) : ∀ r, r ≤ Q.length → sumT lot (Q.take r) = smF (fun k => trimN lot (Q.getD k 0)) r
  | 0, _ => by simp [sumT, smF]
  | r + 1, h => by rw [sumT_take lot Q r (by omega), sumT_smF lot Q r (by omega)]; rfl
/-- What holds behind the runs ahead of i. -/
structure SvInv (L : List Od) (s p lot v : Int) (i : Nat) (S : Sta) : Prop where
  e : S.2 = v - min v (allS s p (L.take i))
  m : S.2 % lot = 0
  t : smF S.1 L.length = v - S.2
  z : ∀ k, i ≤ k → S.1 k = 0
  l : ∀ k, k < i → (L[k]!).side = s → wnO L[k]! p = true → S.1 k < (L[k]!).qty → v < allS s (L[k]!).price L
section
variable {L : List Od} {s p mode lot v : Int} (hb : bookO L = true) (hl : 1 ≤ lot) (hl2 : lot ≤ 1099511627776) (hmd : mode = 1 ∨ mode = 2) (hw : Whl L lot) (hv1 : 1 ≤ v) (hv2 : v ≤ 4611686018427387904) (hvm : v % lot = 0)
include hb hl hl2 hmd hw hv1 hv2 hvm
theorem inv_step {i : Nat} {S : Sta} (hi : i < L.length) (hB : Bnd L i) (h : SvInv L s p lot v i S) : SvInv L s p lot v (i + rlA L i) (stp L s p mode lot i S) := by
  obtain ⟨h64, hg, _, _⟩ := (book_iff L).1 hb
  have hq := good_all hg
  have hr := rlA_le L hi
  have hsp := rlA_spec hi
  have A0 := (allS_bd s p (hq.take i)).1
  by_cases c : (L[i]!).side = s ∧ wnO L[i]! p = true
  · obtain ⟨c1, c2⟩ := c
    have hst : stO L s p i = true := by rw [stO_bnd hB, c1, c2]; simp
    have hqt : (Qat L i).take (rlA L i) = Qat L i := List.take_of_length_le (by rw [Qat_len hi]; exact Nat.le_refl _)
    have hall := run_sum hl hq hw hi c1 c2 (rlA L i) (Nat.le_refl _)
    rw [hqt] at hall
    have hQ : OkQ (Qat L i) := by
      intro q hq'
      unfold Qat qs at hq'
      obtain ⟨x, hx, rfl⟩ := List.mem_map.1 hq'
      exact hq x (List.mem_of_mem_drop (List.mem_of_mem_take hx))
    have hQ0 : ∀ k, k < rlA L i → trimN lot ((Qat L i).getD k 0) = (L[i + k]!).qty ∧ 1 ≤ (L[i + k]!).qty := by
      intro k hk
      have hm := bang_mem (L := L) (i := i + k) (by omega)
      rw [Qat_sub hi hk, trim_whole hl (hq _ hm).1 (hw _ hm)]
      exact ⟨rfl, (good_qty (hg _ hm)).2.2.2.1⟩
    have hTs : sumT lot (Qat L i) = smF (fun k => trimN lot ((Qat L i).getD k 0)) (rlA L i) := by
      have := sumT_smF lot (Qat L i) (rlA L i) (by rw [Qat_len hi]; exact Nat.le_refl _)
      rw [hqt] at this
      exact this
    have hT1 : 0 < sumT lot (Qat L i) := by
      rw [hTs]
      have := smF_lt (g := fun _ => 0) (h := fun k => trimN lot ((Qat L i).getD k 0)) (rlA L i) (fun k hk => by have := hQ0 k hk; show (0 : Int) ≤ trimN lot ((Qat L i).getD k 0); omega) ⟨0, by omega, by have := hQ0 0 (by omega); show (0 : Int) < trimN lot ((Qat L i).getD 0 0); omega⟩
      have z := smF_none (f := fun _ => 0) (rlA L i) (fun _ _ => rfl)
      omega
    -- who stands up to the run's end wants its price
    have hup : ∀ k, k < i + rlA L i → i ≤ k → allS s p (L.take (i + rlA L i)) ≤ allS s (L[k]!).price L := by
      intro k hk hik
      have hsk := smO_iff.1 (hsp.1 (k - i) (by omega))
      rw [show i + (k - i) = k by omega] at hsk
      have := allS_mono hq s p (L[k]!).price (i + rlA L i) L.length (by omega) (Nat.le_refl _) (fun j hj hs => by
        by_cases e : j ≤ k
        · exact book_ahead hb e (by omega) (by rw [hs, hsk.1, c1])
        · have hsj := smO_iff.1 (hsp.1 (j - i) (by omega))
          rw [show i + (j - i) = j by omega] at hsj
          have := book_ahead hb (i := j) (j := j) (Nat.le_refl _) (by omega) rfl
          rw [hsk.2, ← hsj.2]; exact this)
      rw [List.take_length] at this; exact this
    by_cases z : S.2 = 0
    · have hno : NoSh mode (Qat L i) S.2 lot := .inr (.inr (.inl (by omega)))
      rw [stp_none hno]
      have e := h.e
      refine ⟨by rw [hall]; omega, h.m, h.t, fun k hk => h.z k (by omega), fun k hk k1 k2 k3 => ?_⟩
      by_cases e2 : k < i
      · exact h.l k e2 k1 k2 k3
      · have := hup k hk (by omega); omega
    · have e := h.e
      have hS1 : 1 ≤ S.2 ∧ S.2 ≤ v := by omega
      have hlen : (Qat L i).length ≤ 64 := by rw [Qat_len hi]; omega
      have htot : totN (Qat L i) lot = sumT lot (Qat L i) := by
        unfold totN; rw [if_neg]; rintro (a | a | a | a)
        · omega
        · omega
        · omega
        · exact a hQ
      have hok : ¬ NoSh mode (Qat L i) S.2 lot := by
        rintro (a | a | a | a)
        · exact a hmd
        · omega
        · omega
        · omega
      obtain ⟨_, hs⟩ := shOk hok
      rw [stp_yes hst hok]
      have hal : allN lot S.2 (sumT lot (Qat L i)) = min S.2 (sumT lot (Qat L i)) := by
        unfold allN; rw [trim_whole hl (by omega) h.m]
      have hgs := gtS_all (mode := mode) hs
      rw [gtS_smF, Qat_len hi] at hgs
      have hTm : sumT lot (Qat L i) % lot = 0 := sumT_mod lot _
      refine ⟨?_, ?_, ?_, fun k hk => ?_, fun k hk k1 k2 k3 => ?_⟩
      · show S.2 - _ = _; rw [hal, hall]; omega
      · show (S.2 - _) % lot = 0
        rw [hal]
        have hm := h.m
        by_cases x : S.2 ≤ sumT lot (Qat L i)
        · rw [Int.min_eq_left x, Int.sub_self]; exact Int.zero_emod _
        · rw [Int.min_eq_right (by omega)]
          exact Int.emod_eq_zero_of_dvd (Int.dvd_sub (Int.dvd_of_emod_eq_zero hm) (Int.dvd_of_emod_eq_zero hTm))
      · show smF (ovr S.1 i (rlA L i) _) L.length = v - (S.2 - _)
        rw [smF_ovr (fun k hk _ => h.z k hk) L.length (by omega), hgs, h.t]; omega
      · show ovr S.1 i (rlA L i) _ k = 0
        unfold ovr; rw [if_neg (by omega)]; exact h.z k (by omega)
      · have k3' : ovr S.1 i (rlA L i) (gtN mode lot S.2 (Qat L i)) k < (L[k]!).qty := k3
        unfold ovr at k3'
        by_cases e2 : k < i
        · rw [if_neg (by omega)] at k3'; exact h.l k e2 k1 k2 k3'
        · rw [if_pos (by omega)] at k3'
          have hu := hup k hk (by omega)
          have hlt := smF_lt (g := gtN mode lot S.2 (Qat L i)) (h := fun k => trimN lot ((Qat L i).getD k 0)) (rlA L i) (fun j hj => by
            have h1 := (gt_rng (mode := mode) hs (k := j) (by rw [Qat_len hi]; exact hj)).2
            have h2 := hQ0 j hj
            rw [Qat_sub hi hj] at h1
            show gtN mode lot S.2 (Qat L i) j ≤ trimN lot ((Qat L i).getD j 0)
            omega) ⟨k - i, by omega, by
            have h2 := hQ0 (k - i) (by omega)
            rw [show i + (k - i) = k by omega] at h2
            show gtN mode lot S.2 (Qat L i) (k - i) < trimN lot ((Qat L i).getD (k - i) 0)
            omega⟩
          rw [hgs, ← hTs, hal] at hlt
          omega
  · have hst : stO L s p i = false := by
      rw [stO_bnd hB]
      cases e : ((L[i]!).side == s) && wnO L[i]! p with
      | false => rfl
      | true => exfalso; simp only [Bool.and_eq_true, beq_iff_eq] at e; exact c e
    rw [stp_no hst]
    have hall := run_none hi c (rlA L i) (Nat.le_refl _)
    refine ⟨by rw [hall]; exact h.e, h.m, h.t, fun k hk => h.z k (by omega), fun k hk k1 k2 k3 => ?_⟩
    by_cases e : k < i
    · exact h.l k e k1 k2 k3
    · exfalso
      have hsm := smO_iff.1 (hsp.1 (k - i) (by omega))
      rw [show i + (k - i) = k by omega] at hsm
      refine c ⟨hsm.1.symm.trans k1, ?_⟩
      unfold wnO at k2 ⊢; rw [← hsm.1, ← hsm.2]; exact k2
theorem inv_end : ∀ m i, L.length - i ≤ m → i ≤ L.length → (i = L.length ∨ Bnd L i) → SvInv L s p lot v i (sdT L s p mode lot v i) → SvInv L s p lot v L.length (sdT L s p mode lot v L.length)
  | 0, i, hm, hi, _, h => by have : i = L.length := by omega
                             subst this; exact h
  | m + 1, i, hm, hi, hB, h => by
    by_cases e : i = L.length
    · subst e; exact h
    · have hil : i < L.length := by omega
      have hr := rlA_le L hil
      have hB' : Bnd L i := by rcases hB with x | x; exact absurd x e; exact x
      have h1 := inv_step (mode := mode) hb hl hl2 hmd hw hv1 hv2 hvm hil hB' h
      rw [← sdT_skip hil] at h1
      refine inv_end m (i + rlA L i) (by omega) (by omega) ?_ h1
      by_cases e2 : i + rlA L i = L.length
      · exact .inl e2
      · exact .inr (Bnd.next hil (by omega))
theorem side_inv : SvInv L s p lot v L.length (sdT L s p mode lot v L.length) := by
  refine inv_end (mode := mode) hb hl hl2 hmd hw hv1 hv2 hvm L.length 0 (by omega) (by omega) (.inr (.inl rfl)) ?_
  refine ⟨?_, hvm, ?_, fun k _ => rfl, fun k hk => absurd hk (Nat.not_lt_zero _)⟩
  · show v = v - min v (allS s p (L.take 0)); simp [allS]; omega
  · show smF (fun _ => 0) L.length = v - v; rw [smF_none _ (fun _ _ => rfl)]; omega
end
theorem btr_le {L : List Od} {last p q : Int} : (btr L last p q = true → volS L q ≤ volS L p) ∧ (btr L last p q = false → volS L p ≤ volS L q) := by
  by_cases h : volS L p = volS L q
  · rw [h]; exact ⟨fun _ => Int.le_refl _, fun _ => Int.le_refl _⟩
  · rw [btr_vol h]; simp; omega
theorem rB_max {L : List Od} (last : Int) : ∀ k, k < L.length → ∀ j, j ≤ k → volS L (L[j]!).price ≤ volS L (rB L last k)
  | 0, _, j, hj => by obtain rfl : j = 0 := by omega
                      exact Int.le_refl _
  | k + 1, hk, j, hj => by
    have hb := btr_le (L := L) (last := last) (p := (L[k + 1]!).price) (q := rB L last k)
    show volS L (L[j]!).price ≤ volS L (if btr L last (L[k + 1]!).price (rB L last k) = true then (L[k + 1]!).price else rB L last k)
    split
    · rename_i c
      by_cases e : j = k + 1
      · subst e; exact Int.le_refl _
      · exact Int.le_trans (rB_max last k (by omega) j (by omega)) (hb.1 c)
    · rename_i c
      by_cases e : j = k + 1
      · subst e; exact hb.2 (by simpa using c)
      · exact rB_max last k (by omega) j (by omega)
theorem allS_down {L : List Od} (hq : QtyOk L) {a b : Int} (h : a ≤ b) : allS 1 b L ≤ allS 1 a L ∧ allS 2 a L ≤ allS 2 b L := by
  induction L with
  | nil => exact ⟨Int.le_refl _, Int.le_refl _⟩
  | cons x l ih =>
    have i := ih (fun y hy => hq y (List.mem_cons_of_mem _ hy))
    have hx := hq x List.mem_cons_self
    have e1 : wnQ x 1 b ≤ wnQ x 1 a := by
      unfold wnQ
      by_cases c : x.side = 1 ∧ wnO x b = true
      · have : x.side = 1 ∧ wnO x a = true := ⟨c.1, by have := c.2; unfold wnO croN at *; rw [c.1] at *; simp at *; omega⟩
        rw [if_pos c, if_pos this]; omega
      · rw [if_neg c]; split <;> omega
    have e2 : wnQ x 2 a ≤ wnQ x 2 b := by
      unfold wnQ
      by_cases c : x.side = 2 ∧ wnO x a = true
      · have : x.side = 2 ∧ wnO x b = true := ⟨c.1, by have := c.2; unfold wnO croN at *; rw [c.1] at *; simp at *; omega⟩
        rw [if_pos c, if_pos this]; omega
      · rw [if_neg c]; split <;> omega
    simp only [allS]; omega
theorem allS_whole {L : List Od} {lot : Int} (hw : Whl L lot) (s p : Int) : allS s p L % lot = 0 := by
  induction L with
  | nil => exact Int.zero_emod _
  | cons x l ih =>
    have h1 := ih (fun y hy => hw y (List.mem_cons_of_mem _ hy))
    have h2 : wnQ x s p % lot = 0 := by unfold wnQ; split; exact hw x List.mem_cons_self; exact Int.zero_emod _
    show (wnQ x s p + allS s p l) % lot = 0
    exact Int.emod_eq_zero_of_dvd (Int.dvd_add (Int.dvd_of_emod_eq_zero h2) (Int.dvd_of_emod_eq_zero h1))
/-- A price with the most that is traded. -/
structure BestP (L : List Od) (p n : Int) : Prop where
  e : n = volS L p
  n1 : 0 < n
  m : ∀ k, k < L.length → volS L (L[k]!).price ≤ n
theorem pri_best {L : List Od} {last : Int} (hb : bookO L = true) : (priS L last).2 = 0 ∧ (priS L last).1 = 0 ∨ BestP L (priS L last).1 (priS L last).2 := by
  obtain ⟨_, hg, _, _⟩ := (book_iff L).1 hb
  unfold priS
  rw [if_pos hb]
  by_cases h0 : L.length = 0
  · left; rw [h0]; refine ⟨?_, rfl⟩; show (if pB L last 0 = 0 then 0 else volS L (pB L last 0)) = 0; exact if_pos rfl
  · obtain ⟨m, hm⟩ : ∃ m, L.length = m + 1 := ⟨L.length - 1, by omega⟩
    have e := pB_rB last (good_all hg) (fun x hx => (good_qty (hg x hx)).2.2.1.1) m (by omega)
    rw [hm, e]
    by_cases c : 0 < volS L (rB L last m)
    · right
      have hp : ∀ j, j < L.length → 1 ≤ rB L last j := by
        intro j hj
        induction j with
        | zero => exact (good_qty (hg _ (bang_mem hj))).2.2.1.1
        | succ j ihj =>
          show 1 ≤ (if btr L last (L[j + 1]!).price (rB L last j) = true then (L[j + 1]!).price else rB L last j)
          split
          · exact (good_qty (hg _ (bang_mem hj))).2.2.1.1
          · exact ihj (by omega)
      have := hp m (by omega)
      rw [if_pos c, if_neg (by omega)]
      exact ⟨rfl, c, fun k hk => rB_max last m (by omega) k (by omega)⟩
    · left; rw [if_neg c]; refine ⟨?_, rfl⟩; show (if (0 : Int) = 0 then 0 else volS L 0) = 0; exact if_pos rfl
/-- Who is left stands where more than the volume is wanted. -/
theorem left_more {L : List Od} {s p mode lot n : Int} (hb : bookO L = true) (hl : 1 ≤ lot) (hl2 : lot ≤ 1099511627776) (hmd : mode = 1 ∨ mode = 2) (hw : Whl L lot) (hn1 : 1 ≤ n) (hn2 : n ≤ 4611686018427387904) (hnm : n % lot = 0) (hs : s = 1 ∨ s = 2)
    (hA : n ≤ allS s p L) {k : Nat} (hk : k < L.length) (hks : (L[k]!).side = s) (hlt : (sdT L s p mode lot n L.length).1 k < (L[k]!).qty) : n < allS s (L[k]!).price L := by
  obtain ⟨h64, hg, _, _⟩ := (book_iff L).1 hb
  have hq := good_all hg
  have hI := side_inv (s := s) (p := p) (mode := mode) hb hl hl2 hmd hw hn1 hn2 hnm
  by_cases c : wnO L[k]! p = true
  · exact hI.l k hk hks c hlt
  · have hkk := book_ahead hb (Nat.le_refl k) hk rfl
    have hq1 := (good_qty (hg _ (bang_mem hk))).2.2.2.1
    -- all who want p want its price as well, and so does it
    have : ∀ (l : List Od), QtyOk l → allS s p l ≤ allS s (L[k]!).price l := by
      intro l hl
      have hd : (s = 1 → (L[k]!).price ≤ p) ∧ (s = 2 → p ≤ (L[k]!).price) := by
        unfold wnO croN at c
        clear hkk hq1
        generalize L[k]! = x at *
        rcases hs with e | e
        · rw [hks, e] at c; simp at c; exact ⟨fun _ => by omega, fun x => by omega⟩
        · rw [hks, e] at c; simp at c; exact ⟨fun x => by omega, fun _ => by omega⟩
      rcases hs with e | e
      · subst e; exact (allS_down hl (hd.1 rfl)).1
      · subst e; exact (allS_down hl (hd.2 rfl)).2
    have h1 := this (L.take k) (hq.take k)
    have h2 := this (L.drop (k + 1)) (fun x hx => hq x (List.mem_of_mem_drop hx))
    have e1 : ∀ q, allS s q L = allS s q (L.take k) + wnQ L[k]! s q + allS s q (L.drop (k + 1)) := by
      intro q
      conv => lhs; rw [← List.take_append_drop (k + 1) L]
      rw [allS_app, allS_take s q hk]
    have e2 := e1 p
    have e3 := e1 (L[k]!).price
    have w1 : wnQ L[k]! s p = 0 := by unfold wnQ; rw [if_neg (fun x => c x.2)]
    have w2 : wnQ L[k]! s (L[k]!).price = (L[k]!).qty := by unfold wnQ; rw [if_pos ⟨hks, hkk⟩]
    omega
/-- What is left of one. -/
def lftN (L : List Od) (D : List (Nat × Nat × Int)) (k : Nat) : Int := (L[k]!).qty - (if (L[k]!).side = 1 then usB k D else usS k D)
theorem clears {L : List Od} {p n mode lot : Int} (hb : bookO L = true) (hl : 1 ≤ lot) (hl2 : lot ≤ 1099511627776) (hmd : mode = 1 ∨ mode = 2) (hw : Whl L lot) (hB : BestP L p n) :
    let D := (dOut ⟨(sdT L 1 p mode lot n L.length).1, (sdT L 2 p mode lot n L.length).1, []⟩ L.length L.length).D
    sumD D = n ∧ (∀ x ∈ D, (x.1 < L.length ∧ x.2.1 < L.length) ∧ 1 ≤ x.2.2 ∧ p ≤ (L[x.1]!).price ∧ (L[x.2.1]!).price ≤ p ∧ (L[x.1]!).side = 1 ∧ (L[x.2.1]!).side = 2) ∧
    (∀ k, k < L.length → 0 ≤ lftN L D k) ∧ ∀ i j, i < L.length → j < L.length → (L[i]!).side = 1 → (L[j]!).side = 2 → 0 < lftN L D i → 0 < lftN L D j → (L[i]!).price < (L[j]!).price := by
  intro D
  obtain ⟨h64, hg, _, _⟩ := (book_iff L).1 hb
  have hq := good_all hg
  have hn := hB.e
  have hn1 := hB.n1
  have b1 := allS_bd 1 p hq
  have b2 := allS_bd 2 p hq
  have hd : n ≤ allS 1 p L ∧ n ≤ allS 2 p L := by rw [hn]; unfold volS; omega
  have hn2 : n ≤ 4611686018427387904 := by
    have : (1099511627776 : Int) * L.length ≤ 1099511627776 * 64 := Int.mul_le_mul_of_nonneg_left (by omega) (by omega)
    omega
  have hnm : n % lot = 0 := by
    rw [hn]; unfold volS
    have m1 := allS_whole hw 1 p; have m2 := allS_whole hw 2 p
    by_cases x : allS 1 p L ≤ allS 2 p L
    · rw [Int.min_eq_left x]; exact m1
    · rw [Int.min_eq_right (by omega)]; exact m2
  have I1 := side_inv (s := 1) (p := p) (mode := mode) hb hl hl2 hmd hw (by omega) hn2 hnm
  have I2 := side_inv (s := 2) (p := p) (mode := mode) hb hl hl2 hmd hw (by omega) hn2 hnm
  have R1 := (sdT_rng (L := L) (s := 1) (p := p) (mode := mode) (lot := lot) (v := n) (by omega) L.length (Nat.le_refl _)).2
  have R2 := (sdT_rng (L := L) (s := 2) (p := p) (mode := mode) (lot := lot) (v := n) (by omega) L.length (Nat.le_refl _)).2
  have LM1 : ∀ k, k < L.length → (L[k]!).side = 1 → (sdT L 1 p mode lot n L.length).1 k < (L[k]!).qty → n < allS 1 (L[k]!).price L := fun k hk a b => left_more hb hl hl2 hmd hw (by omega) hn2 hnm (.inl rfl) hd.1 hk a b
  have LM2 : ∀ k, k < L.length → (L[k]!).side = 2 → (sdT L 2 p mode lot n L.length).1 k < (L[k]!).qty → n < allS 2 (L[k]!).price L := fun k hk a b => left_more hb hl hl2 hmd hw (by omega) hn2 hnm (.inr rfl) hd.2 hk a b
  have s1 : smF (sdT L 1 p mode lot n L.length).1 L.length = n := by
    have := I1.e; have := I1.t; rw [List.take_length] at *; omega
  have s2 : smF (sdT L 2 p mode lot n L.length).1 L.length = n := by
    have := I2.e; have := I2.t; rw [List.take_length] at *; omega
  have da := deals_all (n := L.length) (m := L.length) (f0 := (sdT L 1 p mode lot n L.length).1) (g0 := (sdT L 2 p mode lot n L.length).1) (fun k => (R1 k).1) (fun k => (R2 k).1) (s1.trans s2.symm)
  have ok : DsOk (sdT L 1 p mode lot n L.length).1 (sdT L 2 p mode lot n L.length).1 ⟨(sdT L 1 p mode lot n L.length).1, (sdT L 2 p mode lot n L.length).1, []⟩ := ⟨fun k => ⟨(R1 k).1, Int.le_refl _⟩, fun k => ⟨(R2 k).1, Int.le_refl _⟩, fun x hx => absurd hx List.not_mem_nil⟩
  have okD := dOut_ok ok L.length L.length
  have lft : ∀ k, k < L.length → ((L[k]!).side = 1 ∧ lftN L D k = (L[k]!).qty - (sdT L 1 p mode lot n L.length).1 k) ∨ ((L[k]!).side = 2 ∧ lftN L D k = (L[k]!).qty - (sdT L 2 p mode lot n L.length).1 k) := by
    intro k hk
    rcases (good_qty (hg _ (bang_mem hk))).2.1 with e | e
    · left; refine ⟨e, ?_⟩; unfold lftN; rw [if_pos e, da.2.1 k hk]
    · right; refine ⟨e, ?_⟩; unfold lftN; rw [if_neg (by omega), da.2.2 k hk]
  refine ⟨da.1.trans s1, fun x hx => ?_, fun k hk => ?_, fun i j hi hj si sj li lj => ?_⟩
  · have hx1 := okD.d x hx
    have r1 := (R1 x.1).2; have r2 := (R2 x.2.1).2
    obtain ⟨a1, a2, a3, a4⟩ : x.1 < L.length ∧ _ ∧ (L[x.1]!).side = 1 ∧ wnO L[x.1]! p = true := by
      rcases r1 with r | r
      · omega
      · exact r
    obtain ⟨c1, c2, c3, c4⟩ : x.2.1 < L.length ∧ _ ∧ (L[x.2.1]!).side = 2 ∧ wnO L[x.2.1]! p = true := by
      rcases r2 with r | r
      · omega
      · exact r
    refine ⟨⟨a1, c1⟩, hx1.1, ?_, ?_, a3, c3⟩
    · unfold wnO croN at a4; rw [a3] at a4; simpa using a4
    · unfold wnO croN at c4; rw [c3] at c4; simpa using c4
  · have hqk := (hq _ (bang_mem hk)).1
    rcases lft k hk with ⟨_, e⟩ | ⟨_, e⟩
    · rw [e]; rcases (R1 k).2 with r | r <;> omega
    · rw [e]; rcases (R2 k).2 with r | r <;> omega
  · refine Classical.byContradiction fun hc => ?_
    have e1 : (sdT L 1 p mode lot n L.length).1 i < (L[i]!).qty := by
      rcases lft i hi with ⟨_, e⟩ | ⟨e, _⟩ <;> omega
    have e2 : (sdT L 2 p mode lot n L.length).1 j < (L[j]!).qty := by
      rcases lft j hj with ⟨e, _⟩ | ⟨_, e⟩ <;> omega
    have d1 := LM1 i hi si e1
    have d2 := LM2 j hj sj e2
    have dn := (allS_down hq (show (L[j]!).price ≤ (L[i]!).price by omega)).1
    have mx := hB.m j hj
    unfold volS at mx
    omega
end Go.Proofs.Ytdjbnnjcifgnlaa

namespace Go.Proofs.Ytdjbnnjcifgnlaa
set_option linter.unusedVariables false

/-- The best buyer, and the best seller, of the first k who have something left. -/
def bdN (L : List Od) (D : List (Nat × Nat × Int)) : Nat → Int
  | 0 => 0
  | k + 1 => if 0 < lftN L D k ∧ (L[k]!).side = 1 then max (bdN L D k) (L[k]!).price else bdN L D k
def akN (L : List Od) (D : List (Nat × Nat × Int)) : Nat → Int
  | 0 => 1099511627777
  | k + 1 => if 0 < lftN L D k ∧ (L[k]!).side = 2 then min (akN L D k) (L[k]!).price else akN L D k
theorem bdN_is (L : List Od) (D : List (Nat × Nat × Int)) : ∀ k, bdN L D k = 0 ∨ ∃ i, i < k ∧ (L[i]!).side = 1 ∧ 0 < lftN L D i ∧ bdN L D k = (L[i]!).price
  | 0 => .inl rfl
  | k + 1 => by
    have ih := bdN_is L D k
    simp only [bdN]
    split
    · rename_i h
      by_cases c : bdN L D k ≤ (L[k]!).price
      · right; exact ⟨k, by omega, h.2, h.1, Int.max_eq_right c⟩
      · rw [Int.max_eq_left (by omega)]
        rcases ih with e | ⟨i, hi, a, b, e⟩
        · exact .inl e
        · exact .inr ⟨i, by omega, a, b, e⟩
    · rcases ih with e | ⟨i, hi, a, b, e⟩
      · exact .inl e
      · exact .inr ⟨i, by omega, a, b, e⟩
theorem akN_is (L : List Od) (D : List (Nat × Nat × Int)) : ∀ k, akN L D k = 1099511627777 ∨ ∃ i, i < k ∧ (L[i]!).side = 2 ∧ 0 < lftN L D i ∧ akN L D k = (L[i]!).price
  | 0 => .inl rfl
  | k + 1 => by
    have ih := akN_is L D k
    simp only [akN]
    split
    · rename_i h
      by_cases c : (L[k]!).price ≤ akN L D k
      · right; exact ⟨k, by omega, h.2, h.1, Int.min_eq_right c⟩
      · rw [Int.min_eq_left (by omega)]
        rcases ih with e | ⟨i, hi, a, b, e⟩
        · exact .inl e
        · exact .inr ⟨i, by omega, a, b, e⟩
    · rcases ih with e | ⟨i, hi, a, b, e⟩
      · exact .inl e
      · exact .inr ⟨i, by omega, a, b, e⟩
/-- What one has traded, on whichever side. -/
def usN (k : Nat) : List (Nat × Nat × Int) → Int
  | [] => 0
  | x :: l => (if x.1 = k ∨ x.2.1 = k then x.2.2 else 0) + usN k l
theorem usN_app (k : Nat) : ∀ A B, usN k (A ++ B) = usN k A + usN k B
  | [], B => by simp [usN]
  | x :: A, B => by simp only [List.cons_append, usN, usN_app k A B]; omega
/-- What the law is shown: trades that clear. -/
structure ClOk (L : List Od) (D : List (Nat × Nat × Int)) (p n : Int) : Prop where
  g : ∀ x ∈ L, goodO x = true
  nd : (L.map Od.id).Nodup
  s : sumD D = n
  n : n ≤ 4611686018427387904
  d : ∀ x ∈ D, (x.1 < L.length ∧ x.2.1 < L.length) ∧ 1 ≤ x.2.2 ∧ p ≤ (L[x.1]!).price ∧ (L[x.2.1]!).price ≤ p ∧ (L[x.1]!).side = 1 ∧ (L[x.2.1]!).side = 2
  l : ∀ k, k < L.length → 0 ≤ lftN L D k
  b : ∀ i j, i < L.length → j < L.length → (L[i]!).side = 1 → (L[j]!).side = 2 → 0 < lftN L D i → 0 < lftN L D j → (L[i]!).price < (L[j]!).price
theorem ClOk.bid {L : List Od} {D : List (Nat × Nat × Int)} {p n : Int} (h : ClOk L D p n) : bdN L D L.length < akN L D L.length := by
  have hp : ∀ k, k < L.length → 1 ≤ (L[k]!).price ∧ (L[k]!).price ≤ 1099511627776 := fun k hk => (good_qty (h.g _ (bang_mem hk))).2.2.1
  rcases bdN_is L D L.length with e | ⟨i, hi, a, b, e⟩
  · rcases akN_is L D L.length with f | ⟨j, hj, c, d, f⟩
    · omega
    · have := hp j hj; omega
  · rcases akN_is L D L.length with f | ⟨j, hj, c, d, f⟩
    · have := hp i hi; omega
    · have := h.b i j hi hj a c b d; omega
theorem sumD_pos {D : List (Nat × Nat × Int)} (h : ∀ x ∈ D, 1 ≤ x.2.2) : 0 ≤ sumD D := by
  induction D with
  | nil => exact Int.le_refl _
  | cons x D ih => have := ih (fun y hy => h y (List.mem_cons_of_mem _ hy)); have := h x List.mem_cons_self; simp only [sumD]; omega
theorem bangD_mem {D : List (Nat × Nat × Int)} {i : Nat} (h : i < D.length) : D[i]! ∈ D := by rw [getElem!_pos D i h]; exact List.getElem_mem _
theorem sumD_take {D : List (Nat × Nat × Int)} {k : Nat} (h : k < D.length) : sumD (D.take (k + 1)) = sumD (D.take k) + (D[k]!).2.2 := by
  rw [List.take_succ_eq_append_getElem h, sumD_app, getElem!_pos D k h]; simp [sumD]
theorem usN_take {D : List (Nat × Nat × Int)} {k i : Nat} (h : i < D.length) : usN k (D.take (i + 1)) = usN k (D.take i) + if (D[i]!).1 = k ∨ (D[i]!).2.1 = k then (D[i]!).2.2 else 0 := by
  rw [List.take_succ_eq_append_getElem h, usN_app, getElem!_pos D i h]; simp [usN]
/-- All sums on the way are within. -/
theorem ClOk.sums {L : List Od} {D : List (Nat × Nat × Int)} {p n : Int} (h : ClOk L D p n) (k : Nat) : 0 ≤ sumD (D.take k) ∧ sumD (D.take k) ≤ n := by
  have h1 := sumD_pos (D := D.take k) (fun x hx => (h.d x (List.mem_of_mem_take hx)).2.1)
  have h2 := sumD_pos (D := D.drop k) (fun x hx => (h.d x (List.mem_of_mem_drop hx)).2.1)
  have e : sumD D = sumD (D.take k) + sumD (D.drop k) := by rw [← sumD_app, List.take_append_drop]
  have := h.s
  omega
theorem usN_pos {D : List (Nat × Nat × Int)} (h : ∀ x ∈ D, 1 ≤ x.2.2) (k : Nat) : 0 ≤ usN k D := by
  induction D with
  | nil => exact Int.le_refl _
  | cons x D ih => have := ih (fun y hy => h y (List.mem_cons_of_mem _ hy)); have := h x List.mem_cons_self; simp only [usN]; split <;> omega
theorem usN_side {L : List Od} {D : List (Nat × Nat × Int)} {k : Nat} (hd : ∀ x ∈ D, (L[x.1]!).side = 1 ∧ (L[x.2.1]!).side = 2) (hs : (L[k]!).side = 1 ∨ (L[k]!).side = 2) : usN k D = if (L[k]!).side = 1 then usB k D else usS k D := by
  induction D with
  | nil => simp [usN, usB, usS]
  | cons x D ih =>
    have i := ih (fun y hy => hd y (List.mem_cons_of_mem _ hy))
    have hx := hd x List.mem_cons_self
    simp only [usN, usB, usS, i]
    by_cases c : (L[k]!).side = 1
    · rw [if_pos c, if_pos c]
      have : ¬ x.2.1 = k := fun e => by rw [e] at hx; omega
      simp [this]
    · rw [if_neg c, if_neg c]
      have : ¬ x.1 = k := fun e => by rw [e] at hx; omega
      simp [this]
theorem ClOk.lft {L : List Od} {D : List (Nat × Nat × Int)} {p n : Int} (h : ClOk L D p n) {k : Nat} (hk : k < L.length) : lftN L D k = (L[k]!).qty - usN k D := by
  rw [usN_side (fun x hx => (h.d x hx).2.2.2.2) (good_qty (h.g _ (bang_mem hk))).2.1]
  rfl
/-- What is left on the way. -/
theorem ClOk.lefts {L : List Od} {D : List (Nat × Nat × Int)} {p n : Int} (h : ClOk L D p n) {k : Nat} (hk : k < L.length) (i : Nat) : 0 ≤ (L[k]!).qty - usN k (D.take i) ∧ (L[k]!).qty - usN k (D.take i) ≤ 1099511627776 := by
  have h1 := usN_pos (D := D.take i) (fun x hx => (h.d x (List.mem_of_mem_take hx)).2.1) k
  have h2 := usN_pos (D := D.drop i) (fun x hx => (h.d x (List.mem_of_mem_drop hx)).2.1) k
  have e : usN k D = usN k (D.take i) + usN k (D.drop i) := by rw [← usN_app, List.take_append_drop]
  have := h.l k hk
  rw [h.lft hk] at this
  have := (good_qty (h.g _ (bang_mem hk))).2.2.2
  omega
/-- Two of a book are the same just where they stand at one place. -/
theorem ClOk.same {L : List Od} {D : List (Nat × Nat × Int)} {p n : Int} (h : ClOk L D p n) {i k : Nat} (hi : i < L.length) (hk : k < L.length) : eqO L[i]! L[k]! = decide (i = k) := by
  by_cases e : i = k
  · subst e; rw [decide_eq_true rfl]; exact (eqO_iff _ _).2 rfl
  · rw [decide_eq_false e]
    cases c : eqO L[i]! L[k]! with
    | false => rfl
    | true =>
      exfalso
      have hx := (eqO_iff _ _).1 c
      have hn := List.pairwise_iff_getElem.1 h.nd
      have hid : (L[i]!).id = (L[k]!).id := by rw [hx]
      rw [getElem!_pos L i hi, getElem!_pos L k hk] at hid
      rcases Nat.lt_or_ge i k with hl | hl
      · exact hn i k (by simpa using hi) (by simpa using hk) hl (by simpa using hid)
      · exact hn k i (by simpa using hk) (by simpa using hi) (by omega) (by simpa using hid.symm)
theorem cl_ok {L : List Od} {last mode lot : Int} (hb : bookO L = true) (hl : 1 ≤ lot) (hl2 : lot ≤ 1099511627776) (hmd : mode = 1 ∨ mode = 2) (hw : Whl L lot) (hB : BestP L (priS L last).1 (priS L last).2) :
    ClOk L (dlS L (priS L last).1 (priS L last).2 mode lot) (priS L last).1 (priS L last).2 := by
  obtain ⟨h64, hg, hnd, _⟩ := (book_iff L).1 hb
  have hn : (priS L last).2 ≤ 4611686018427387904 := by
    rw [hB.e]
    have b1 := allS_bd 1 (priS L last).1 (good_all hg)
    have : (1099511627776 : Int) * L.length ≤ 1099511627776 * 64 := Int.mul_le_mul_of_nonneg_left (by omega) (by omega)
    unfold volS; omega
  have hm : mayS (priS L last).2 mode lot = true := may_yes (by have := hB.n1; omega)
  have e : dlS L (priS L last).1 (priS L last).2 mode lot = (dOut ⟨(sdT L 1 (priS L last).1 mode lot (priS L last).2 L.length).1, (sdT L 2 (priS L last).1 mode lot (priS L last).2 L.length).1, []⟩ L.length L.length).D := by
    unfold dlS; rw [hb, hm]; rfl
  have hc := clears hb hl hl2 hmd hw hB
  rw [e]
  exact ⟨hg, hnd, hc.1, hn, hc.2.1, hc.2.2.1, hc.2.2.2⟩
/-- Where nothing is traded there are no trades. -/
theorem cl_none {L : List Od} {p mode lot : Int} : dlS L p 0 mode lot = [] := by
  unfold dlS
  rw [may_not (.inr (.inr (.inr (.inr (.inl (by decide))))))]
  simp
theorem cl_book {L : List Od} {p v mode lot : Int} (h : bookO L = false) : dlS L p v mode lot = [] := by
  unfold dlS; rw [h]; rfl
end Go.Proofs.Ytdjbnnjcifgnlaa

namespace Go.Proofs.Ytdjbnnjcifgnlaa
open Go.RowKit Go.Lib Go.Maps Go.Deep Go.Sort
set_option linter.unusedVariables false

theorem mod_of {q lot : Int} (h1 : 1 ≤ q) (h2 : 1 ≤ lot) (h : q.tmod lot = 0) : q % lot = 0 := by
  rw [← Int.tmod_eq_emod_of_nonneg (by omega)]; exact h
/-- Both ways that Price and Deals go. -/
theorem cl_cases {L : List Od} {last mode lot : Int} (hl : 1 ≤ lot) (hl2 : lot ≤ 1099511627776) (hmd : mode = 1 ∨ mode = 2) (hw : ∀ j, j < L.length → (L[j]!).qty.tmod lot = 0) :
    ((priS L last).1 = 0 ∧ (priS L last).2 = 0 ∧ dlS L (priS L last).1 (priS L last).2 mode lot = []) ∨ (1 ≤ (priS L last).2 ∧ ClOk L (dlS L (priS L last).1 (priS L last).2 mode lot) (priS L last).1 (priS L last).2) := by
  cases hb : bookO L with
  | false =>
    left
    have e : priS L last = (0, 0) := by unfold priS; rw [hb]; rfl
    rw [e]; exact ⟨rfl, rfl, cl_book hb⟩
  | true =>
    obtain ⟨_, hg, _, _⟩ := (book_iff L).1 hb
    rcases pri_best (last := last) hb with ⟨h2, h1⟩ | hB
    · left; refine ⟨h1, h2, ?_⟩; rw [h2]; exact cl_none
    · right
      refine ⟨by have := hB.n1; omega, cl_ok hb hl hl2 hmd (fun x hx => ?_) hB⟩
      obtain ⟨j, hj, e⟩ := List.getElem_of_mem hx
      have := hw j hj
      rw [getElem!_pos L j hj, e] at this
      exact mod_of (good_qty (hg x hx)).2.2.2.1 hl this
set_option maxHeartbeats 4000000 in
set_option maxRecDepth 100000 in
theorem clears_1 (A : Option Addr) (n c : Nat) (L : List Od) (last mode lot : Int) (hl : InR last) (hlot : InR lot) (w : World) (HO : Ods w A n L) (hnc : n ≤ c) (hn : n ≤ 64) (hl1 : 1 ≤ lot) (hl2 : lot ≤ 1099511627776) (hmd : mode = 1 ∨ mode = 2) (hm : (mode != 1) = false) :
    Calls Try.prog 6 #[.slice A n c, .int .i64 last, .int .i64 mode, .int .i64 lot] w fun e w' => e = .returned (.bool true) ∧ Below w.heap.size w w' := by
  have g0 : decide ((64 : Int) < (n : Int)) = false := decide_eq_false (by omega)
  have g1 : decide (lot < 1) = false := decide_eq_false (by omega)
  have g2 : decide (1099511627776 < lot) = false := decide_eq_false (by omega)
  have HL := Lib.hid HO.1
  have HH := Lib.hid HO
  have HLast := Lib.hid hl
  have HLot := Lib.hid hlot
  have HMD := Lib.hid hmd
  have HLB := Lib.hid (And.intro hl1 hl2)
  have k0 : (lot == 0) = false := by simp; omega
  have k1 : ¬ lot = 0 := by omega
  have hlb2 : lot ≤ 9223372036854775807 := by omega
  clear HO hl hlot hl2 hmd
  go_enter Try.func6, Try.ntmps6
  go_wp2_with fail
  clear g0 g1 g2
  go_loopg [46] n (fun kx s46 wr => ∃ k : Nat, s46 = .int .i64 (k : Int) ∧ k ≤ n ∧ n - k ≤ kx ∧ Hid (∀ j, j < k → (L[j]!).qty.tmod lot = 0) ∧ Hid (Below w.heap.size w wr))
  case atStart => exact ⟨0, rfl, by omega, by omega, Lib.hid (fun j hj => absurd hj (Nat.not_lt_zero _)), Lib.hid (Below.refl _ _)⟩
  case round =>
    obtain ⟨k, rfl, hk, hkx, hM, hB⟩ := hrel
    by_cases hlt : k < n
    · have hltI : (k : Int) < (n : Int) := by omega
      have hk0 : (0 : Int) ≤ (k : Int) := by omega
      have hO := HH.out.below hB.out
      obtain ⟨b, off, rfl, hb, hc⟩ : ∃ b off, A = some ⟨b, off, none⟩ ∧ b < wr.heap.size ∧ ∀ i, i < n → (L[i]!).at wr b (off + i * 6) := by
        rcases hO.2.2.2 with h | h
        · omega
        · exact h
      have hx := hc k hlt
      have hok := hO.2.2.1 (L[k]!) (by rw [getElem!_pos L k (by rw [HL.out]; exact hlt)]; exact List.getElem_mem _)
      obtain ⟨x, ex⟩ : ∃ x, L[k]! = x := ⟨_, rfl⟩
      rw [ex] at hx hok
      have HX := Lib.hid ex
      have hqr := hok.2.2.2.2.1
      have hB2 := Lib.hid (hB.out.alloc hB.out.size (.cells #[.int .u64 x.id, .int .i64 x.acc, .int .i64 x.side, .int .i64 x.price, .int .i64 x.qty, .int .u64 x.seq] 42))
      clear hc hO ex hok
      obtain ⟨x0, x1, x2, x3, x4, x5⟩ := hx
      obtain ⟨r, hr⟩ : ∃ r, (x.qty).tmod lot = r := ⟨_, rfl⟩
      by_cases r0 : r = 0
      · have gr : (r != 0) = false := by simp [r0]
        have hM2 : Hid (∀ j, j < k + 1 → (L[j]!).qty.tmod lot = 0) := Lib.hid (fun j hj => by
          by_cases e : j < k
          · exact hM.out j e
          · obtain rfl : j = k := by omega
            rw [HX.out, hr, r0])
        clear r0
        go_wp2_with fail
        go_roundg (n - (k + 1))
        case measure => omega
        case rel => exact ⟨k + 1, by go_num, by omega, by omega, hM2, hB2⟩
      · have gr : (r != 0) = true := by simp [r0]
        clear r0
        go_wp2_with ((with_reducible refine (lives19_c _).mono ?_); rintro e w5 ⟨rfl, b5⟩)
        go_ret
        exact ⟨rfl, hB2.out.trans (b5.mono hB2.out.size)⟩
    · have hltI : ¬ (k : Int) < (n : Int) := by omega
      obtain rfl : k = n := by omega
      have HC := Lib.hid (cl_cases (last := last) HLB.out.1 HLB.out.2 HMD.out (fun j hj => hM.out j (by rw [HL.out] at hj; exact hj)))
      have HPr := Lib.hid (price_c A k c L last wr (HH.out.below hB.out) HLast.out)
      have HDe := Lib.hid (fun w1 p v (hb : Below wr.heap.size wr w1) => deals_c A k c L p v mode lot w1 ((HH.out.below hB.out).below hb) hnc HLot.out (by omega))
      clear hM
      obtain ⟨P1, hP1⟩ : ∃ P, P = (priS L last).1 := ⟨_, rfl⟩
      obtain ⟨P2, hP2⟩ : ∃ P, P = (priS L last).2 := ⟨_, rfl⟩
      rw [← hP1, ← hP2] at HPr HC
      have hlen := dlS_len L P1 P2 mode lot
      have HD1 := Lib.hid (fun w1 hb => HDe.out w1 P1 P2 hb)
      clear hP1 hP2 HDe
      obtain ⟨D, hD⟩ : ∃ D, D = dlS L P1 P2 mode lot := ⟨_, rfl⟩
      rw [← hD] at HD1 HC hlen
      clear hD
      go_wp2_with fail
      ((with_reducible refine HPr.out.mono ?_); rintro e w1 ⟨rfl, b1⟩)
      have B1 := Lib.hid (hB.out.trans (b1.mono hB.out.size))
      have HD2 := Lib.hid (HD1.out w1 b1)
      clear b1 HPr HD1 hB
      go_wp2_with fail
      ((with_reducible refine HD2.out.mono ?_); rintro e w2 ⟨vD, rfl, h2⟩)
      have B2 := Lib.hid (B1.out.trans (h2.out.1.mono B1.out.size))
      have R2 := Lib.hid (DlAt.of h2.out.2)
      clear HD2 h2 B1
      obtain ⟨A1, c1, rfl⟩ := R2.out.len
      obtain ⟨m, hm⟩ : ∃ m, m = D.length := ⟨_, rfl⟩
      rw [← hm] at hlen
      rw [← hm]
      have HM := Lib.hid hm
      clear hm
      by_cases hz : P2 = 0
      · have hz0 : P1 = 0 ∧ D = [] := by
          rcases HC.out with h | h
          · exact ⟨h.1, h.2.2⟩
          · omega
        have e1 : (P2 == 0) = true := by simp [hz]
        have e2 : (P1 == 0) = true := by simp [hz0.1]
        have hm0 : m = 0 := by rw [HM.out, hz0.2]; rfl
        have e3 : ((m : Int) == 0) = true := by simp [hm0]
        clear hz hz0 hm0 HC R2
        go_wp2_with ((with_reducible refine (lives19_c _).mono ?_); rintro e w5 ⟨rfl, b5⟩)
        go_ret
        exact ⟨rfl, B2.out.trans (b5.mono B2.out.size)⟩
      · have e1 : (P2 == 0) = false := by simp [hz]
        have CK : Hid (ClOk L D P1 P2) := Lib.hid (by
          rcases HC.out with h | h
          · exact absurd h.2.1 hz
          · exact h.2)
        clear hz HC
        go_wp2_with fail
        go_loopg [14, 83] m (fun kx s14 s83 wr => ∃ (i : Nat) (al : Int), s14 = .int .i64 al ∧ s83 = .int .i64 (i : Int) ∧ i ≤ m ∧ m - i ≤ kx ∧ Hid (al = sumD (D.take i)) ∧ Hid (Below w2.heap.size w2 wr))
        case atStart => exact ⟨0, 0, rfl, rfl, by omega, by omega, Lib.hid rfl, Lib.hid (Below.refl _ _)⟩
        case round =>
          obtain ⟨i, al, rfl, rfl, hi, hix, hA, hB⟩ := hrel
          by_cases hil : i < m
          · have hiI : (i : Int) < (m : Int) := by omega
            have hi0 : (0 : Int) ≤ (i : Int) := by omega
            have hR := R2.out.below hB.out
            obtain ⟨k1', rfl, hk1', hc1⟩ : ∃ k1, A1 = some ⟨k1, 0, none⟩ ∧ k1 < wr.heap.size ∧ TrAt wr k1 i L[(D[i]!).1]! L[(D[i]!).2.1]! (D[i]!).2.2 := by
              rcases hR with ⟨h0, _⟩ | ⟨k1, cap, hv, hlt, hc⟩
              · have := HM.out; omega
              · injection hv with hv _ _; exact ⟨k1, hv, hlt, hc i (by rw [← HM.out]; exact hil)⟩
            have hdi := CK.out.d (D[i]!) (bangD_mem (by rw [← HM.out]; exact hil))
            have hsu := (CK.out.sums (i + 1))
            have hsn := CK.out.n
            have hst := sumD_take (D := D) (k := i) (by rw [← HM.out]; exact hil)
            have hs0 := (CK.out.sums i).1
            obtain ⟨q, hq⟩ : ∃ q, q = (D[i]!).2.2 := ⟨_, rfl⟩
            rw [← hq] at hc1 hdi hst
            rw [← hA.out] at hst hs0
            generalize L[(D[i]!).1]! = x at hc1 hdi
            generalize L[(D[i]!).2.1]! = y at hc1 hdi
            have a0 : wr.cell? ⟨k1', i * 13, none⟩ = some (.int .u64 x.id) := hc1 0 _ rfl
            have a1 : wr.cell? ⟨k1', i * 13 + 1, none⟩ = some (.int .i64 x.acc) := hc1 1 _ rfl
            have a2 : wr.cell? ⟨k1', i * 13 + 2, none⟩ = some (.int .i64 x.side) := hc1 2 _ rfl
            have a3 : wr.cell? ⟨k1', i * 13 + 3, none⟩ = some (.int .i64 x.price) := hc1 3 _ rfl
            have a4 : wr.cell? ⟨k1', i * 13 + 4, none⟩ = some (.int .i64 x.qty) := hc1 4 _ rfl
            have a5 : wr.cell? ⟨k1', i * 13 + 5, none⟩ = some (.int .u64 x.seq) := hc1 5 _ rfl
            have a6 : wr.cell? ⟨k1', i * 13 + 6, none⟩ = some (.int .u64 y.id) := hc1 6 _ rfl
            have a7 : wr.cell? ⟨k1', i * 13 + 7, none⟩ = some (.int .i64 y.acc) := hc1 7 _ rfl
            have a8 : wr.cell? ⟨k1', i * 13 + 8, none⟩ = some (.int .i64 y.side) := hc1 8 _ rfl
            have a9 : wr.cell? ⟨k1', i * 13 + 9, none⟩ = some (.int .i64 y.price) := hc1 9 _ rfl
            have a10 : wr.cell? ⟨k1', i * 13 + 10, none⟩ = some (.int .i64 y.qty) := hc1 10 _ rfl
            have a11 : wr.cell? ⟨k1', i * 13 + 11, none⟩ = some (.int .u64 y.seq) := hc1 11 _ rfl
            have a12 : wr.cell? ⟨k1', i * 13 + 12, none⟩ = some (.int .i64 q) := hc1 12 _ rfl
            have f1 : decide (q < 1) = false := decide_eq_false (by omega)
            have f2 : decide (x.price < P1) = false := decide_eq_false (by omega)
            have f3 : decide (P1 < y.price) = false := decide_eq_false (by omega)
            have f4 : (x.side != 1) = false := by simp [hdi.2.2.2.2.1]
            have f5 : (y.side != 2) = false := by simp [hdi.2.2.2.2.2]
            have f6 : IntKind.i64.wrap (al + q) = al + q := by rw [IntKind.wrap_i64]; omega
            have f7 : -9223372036854775808 ≤ al + q ∧ al + q < 9223372036854775808 := by omega
            obtain ⟨f8, f9⟩ := f7
            have hA2 : Hid (al + q = sumD (D.take (i + 1))) := Lib.hid hst.symm
            have hB3 := Lib.hid (hB.out.alloc hB.out.size (.cells (encT x y q).toArray 44))
            clear hc1 hR hdi hsu hsn hst hs0 hq
            go_wp2_with fail
            go_roundg (m - (i + 1))
            case measure => omega
            case rel => exact ⟨i + 1, al + q, rfl, by go_num, by omega, by omega, hA2, hB3⟩
          · have hiI : ¬ (i : Int) < (m : Int) := by omega
            obtain rfl : i = m := by omega
            have hal : al = P2 := by rw [hA.out, List.take_of_length_le (by rw [← HM.out]; exact Nat.le_refl _), CK.out.s]
            subst hal
            have eal : (al == al) = true := by simp
            have B3 := Lib.hid (B2.out.trans (hB.out.mono B2.out.size))
            have R3 := Lib.hid (R2.out.below hB.out)
            have H3 := Lib.hid (HH.out.below B3.out)
            clear hA R2 hB B2 HH
            go_wp2_with fail
            go_loopg [17, 18, 123] k (fun kx s17 s18 s123 wx => ∃ (j : Nat) (bd ak : Int), s17 = .int .i64 bd ∧ s18 = .int .i64 ak ∧ s123 = .int .i64 (j : Int) ∧ j ≤ k ∧ k - j ≤ kx ∧ Hid (bd = bdN L D j ∧ ak = akN L D j) ∧ Hid (Below wr.heap.size wr wx))
            case atStart => exact ⟨0, 0, 1099511627777, rfl, rfl, rfl, by omega, by omega, Lib.hid ⟨rfl, rfl⟩, Lib.hid (Below.refl _ _)⟩
            case round =>
              obtain ⟨j, bd, ak, rfl, rfl, rfl, hj, hjx, hBA, hB6⟩ := hrel
              obtain ⟨w6, e6⟩ : ∃ w6, w6 = wr := ⟨_, rfl⟩
              subst e6
              by_cases hjl : j < k
              · have hjI : (j : Int) < (k : Int) := by omega
                have hj0 : (0 : Int) ≤ (j : Int) := by omega
                have hO := H3.out.below hB6.out
                have hR6 := Lib.hid (R3.out.below hB6.out)
                obtain ⟨b, off, rfl, hb, hc⟩ : ∃ b off, A = some ⟨b, off, none⟩ ∧ b < w6.heap.size ∧ ∀ i, i < k → (L[i]!).at w6 b (off + i * 6) := by
                  rcases hO.2.2.2 with h | h
                  · omega
                  · exact h
                have hx := hc j hjl
                obtain ⟨z, ez⟩ : ∃ z, L[j]! = z := ⟨_, rfl⟩
                rw [ez] at hx
                have HZ := Lib.hid ez
                have HJL : Hid (j < L.length) := Lib.hid (by rw [HL.out]; exact hjl)
                have hl0 := CK.out.lefts HJL.out 0
                have hqe : z.qty = (L[j]!).qty - usN j (D.take 0) := by rw [ez]; simp [usN]
                rw [← hqe] at hl0
                have HQE := Lib.hid hqe
                clear hc hO ez hqe
                obtain ⟨z0, z1, z2, z3, z4, z5⟩ := hx
                have HBZ : Hid ((w6.alloc (.cells (OC z) 42)).heap[w6.heap.size]? = some (.cells (OC z) 42 (0, 0))) := Lib.hid (heap_alloc_new _ _)
                go_wp2_with fail
                go_loopg [21, 131] i (fun kx s21 s131 wx => ∃ (a : Nat) (lf : Int), s21 = .int .i64 lf ∧ s131 = .int .i64 (a : Int) ∧ a ≤ i ∧ i - a ≤ kx ∧ Hid (lf = (L[j]!).qty - usN j (D.take a)) ∧ Hid (Below w6.heap.size w6 wx ∧ wx.heap[w6.heap.size]? = some (.cells (OC z) 42 (0, 0))))
                case atStart => exact ⟨0, z.qty, rfl, rfl, by omega, by omega, HQE, Lib.hid ⟨(Below.refl _ _).alloc (Nat.le_refl _) _, HBZ.out⟩⟩
                case round =>
                  obtain ⟨a, lf, rfl, rfl, ha, hax, hlf, hBB⟩ := hrel
                  have t0 : wr.cell? ⟨w6.heap.size, 0, none⟩ = some (.int .u64 z.id) := by rw [cell_of_row _ _ _ _ _ _ hBB.out.2]; rfl
                  have t1 : wr.cell? ⟨w6.heap.size, 1, none⟩ = some (.int .i64 z.acc) := by rw [cell_of_row _ _ _ _ _ _ hBB.out.2]; rfl
                  have t2 : wr.cell? ⟨w6.heap.size, 2, none⟩ = some (.int .i64 z.side) := by rw [cell_of_row _ _ _ _ _ _ hBB.out.2]; rfl
                  have t3 : wr.cell? ⟨w6.heap.size, 3, none⟩ = some (.int .i64 z.price) := by rw [cell_of_row _ _ _ _ _ _ hBB.out.2]; rfl
                  have t4 : wr.cell? ⟨w6.heap.size, 4, none⟩ = some (.int .i64 z.qty) := by rw [cell_of_row _ _ _ _ _ _ hBB.out.2]; rfl
                  have t5 : wr.cell? ⟨w6.heap.size, 5, none⟩ = some (.int .u64 z.seq) := by rw [cell_of_row _ _ _ _ _ _ hBB.out.2]; rfl
                  by_cases hal2 : a < i
                  · have haI : (a : Int) < (i : Int) := by omega
                    have ha0 : (0 : Int) ≤ (a : Int) := by omega
                    have hR := hR6.out.below hBB.out.1
                    obtain ⟨k1', rfl, hk1', hc1⟩ : ∃ k1, A1 = some ⟨k1, 0, none⟩ ∧ k1 < wr.heap.size ∧ TrAt wr k1 a L[(D[a]!).1]! L[(D[a]!).2.1]! (D[a]!).2.2 := by
                      rcases hR with ⟨h0, _⟩ | ⟨k1, cap, hv, hlt, hc⟩
                      · have := HM.out; omega
                      · injection hv with hv _ _; exact ⟨k1, hv, hlt, hc a (by rw [← HM.out]; exact hal2)⟩
                    have hdi := CK.out.d (D[a]!) (bangD_mem (by rw [← HM.out]; exact hal2))
                    have hut := usN_take (D := D) (k := j) (i := a) (by rw [← HM.out]; exact hal2)
                    have hl1' := CK.out.lefts HJL.out a
                    have hl2' := CK.out.lefts HJL.out (a + 1)
                    rw [← hlf.out] at hl1'
                    have hs1 := CK.out.same hdi.1.1 HJL.out
                    have hs2 := CK.out.same hdi.1.2 HJL.out
                    rw [HZ.out] at hs1 hs2
                    obtain ⟨q, hq⟩ : ∃ q, q = (D[a]!).2.2 := ⟨_, rfl⟩
                    rw [← hq] at hc1 hdi hut
                    generalize L[(D[a]!).1]! = x at hc1 hdi hs1
                    generalize L[(D[a]!).2.1]! = y at hc1 hdi hs2
                    have a0 : wr.cell? ⟨k1', a * 13, none⟩ = some (.int .u64 x.id) := hc1 0 _ rfl
                    have a1 : wr.cell? ⟨k1', a * 13 + 1, none⟩ = some (.int .i64 x.acc) := hc1 1 _ rfl
                    have a2 : wr.cell? ⟨k1', a * 13 + 2, none⟩ = some (.int .i64 x.side) := hc1 2 _ rfl
                    have a3 : wr.cell? ⟨k1', a * 13 + 3, none⟩ = some (.int .i64 x.price) := hc1 3 _ rfl
                    have a4 : wr.cell? ⟨k1', a * 13 + 4, none⟩ = some (.int .i64 x.qty) := hc1 4 _ rfl
                    have a5 : wr.cell? ⟨k1', a * 13 + 5, none⟩ = some (.int .u64 x.seq) := hc1 5 _ rfl
                    have a6 : wr.cell? ⟨k1', a * 13 + 6, none⟩ = some (.int .u64 y.id) := hc1 6 _ rfl
                    have a7 : wr.cell? ⟨k1', a * 13 + 7, none⟩ = some (.int .i64 y.acc) := hc1 7 _ rfl
                    have a8 : wr.cell? ⟨k1', a * 13 + 8, none⟩ = some (.int .i64 y.side) := hc1 8 _ rfl
                    have a9 : wr.cell? ⟨k1', a * 13 + 9, none⟩ = some (.int .i64 y.price) := hc1 9 _ rfl
                    have a10 : wr.cell? ⟨k1', a * 13 + 10, none⟩ = some (.int .i64 y.qty) := hc1 10 _ rfl
                    have a11 : wr.cell? ⟨k1', a * 13 + 11, none⟩ = some (.int .u64 y.seq) := hc1 11 _ rfl
                    have a12 : wr.cell? ⟨k1', a * 13 + 12, none⟩ = some (.int .i64 q) := hc1 12 _ rfl
                    have hq1 : 1 ≤ q := hdi.2.1
                    have hwz : wr.heap.size = wr.heap.size := rfl
                    have hlt6 : w6.heap.size < wr.heap.size := blk_lt hBB.out.2
                    have r1 := eq_ordP x z
                    have r2 := eq_ordP y z
                    have r3 : ∀ w, (binOp .eql 42 (.agg (OC x)) (.agg (OC z))).run Try.prog w = .ok (.bool (eqO x z)) w := fun w => by rw [run_eql_struct, eq_ordP]; rfl
                    have r4 : ∀ w, (binOp .eql 42 (.agg (OC y)) (.agg (OC z))).run Try.prog w = .ok (.bool (eqO y z)) w := fun w => by rw [run_eql_struct, eq_ordP]; rfl
                    have hB7 := Lib.hid (And.intro (hBB.out.1.alloc hBB.out.1.size (.cells (encT x y q).toArray 44)) ((Below.heap_alloc wr (.cells (encT x y q).toArray 44) _ (blk_lt hBB.out.2)).trans hBB.out.2))
                    clear hc1 hR hdi hq
                    by_cases q1 : (D[a]!).1 = j ∨ (D[a]!).2.1 = j
                    · rw [if_pos q1] at hut
                      have hlf2 : Hid (lf - q = (L[j]!).qty - usN j (D.take (a + 1))) := Lib.hid (by rw [hut, hlf.out]; omega)
                      have hlr : 0 ≤ lf - q := by rw [hlf2.out]; exact hl2'.1
                      have hsub : IntKind.i64.wrap (lf - q) = lf - q := by rw [IntKind.wrap_i64]; omega
                      obtain ⟨hl3, hl4⟩ := hl1'
                      clear hl2' hut
                      cases c1x : eqO x z with
                      | true =>
                        rw [c1x] at r1 r3
                        clear q1 hs1 hs2 c1x
                        go_wp2_with fail
                        go_roundg (i - (a + 1))
                        case measure => omega
                        case rel => exact ⟨a + 1, lf - q, rfl, by go_num, by omega, by omega, hlf2, hB7⟩
                      | false =>
                        have c2x : eqO y z = true := by
                          rcases q1 with h | h
                          · rw [c1x, decide_eq_true h] at hs1; cases hs1
                          · rw [hs2, decide_eq_true h]
                        rw [c1x] at r1 r3
                        rw [c2x] at r2 r4
                        clear q1 hs1 hs2 c1x c2x
                        go_wp2_with fail
                        go_roundg (i - (a + 1))
                        case measure => omega
                        case rel => exact ⟨a + 1, lf - q, rfl, by go_num, by omega, by omega, hlf2, hB7⟩
                    · rw [if_neg q1] at hut
                      have c1x : eqO x z = false := by rw [hs1, decide_eq_false (fun h => q1 (.inl h))]
                      have c2x : eqO y z = false := by rw [hs2, decide_eq_false (fun h => q1 (.inr h))]
                      have hlf2 : Hid (lf = (L[j]!).qty - usN j (D.take (a + 1))) := Lib.hid (by rw [hut, hlf.out]; omega)
                      rw [c1x] at r1 r3
                      rw [c2x] at r2 r4
                      clear q1 hs1 hs2 c1x c2x hl1' hl2' hut
                      go_wp2_with fail
                      go_roundg (i - (a + 1))
                      case measure => omega
                      case rel => exact ⟨a + 1, lf, rfl, by go_num, by omega, by omega, hlf2, hB7⟩
                  · have haI : ¬ (a : Int) < (i : Int) := by omega
                    obtain rfl : a = i := by omega
                    have hlN : lf = lftN L D j := by rw [CK.out.lft HJL.out, hlf.out, List.take_of_length_le (by rw [← HM.out]; exact Nat.le_refl _)]
                    have hl0' := CK.out.l j HJL.out
                    rw [← hlN] at hl0'
                    have HLN := Lib.hid hlN
                    have hzg := good_qty (CK.out.g (L[j]!) (bang_mem HJL.out))
                    rw [HZ.out] at hzg
                    have HB8 := Lib.hid (hB6.out.trans (hBB.out.1.mono hB6.out.size))
                    have g9 : decide (lf < 0) = false := decide_eq_false (by omega)
                    have hbN : bdN L D (j + 1) = if 0 < lf ∧ z.side = 1 then max bd z.price else bd := by rw [bdN, ← hBA.out.1, ← hlN, HZ.out]
                    have haN : akN L D (j + 1) = if 0 < lf ∧ z.side = 2 then min ak z.price else ak := by rw [akN, ← hBA.out.2, ← hlN, HZ.out]
                    clear hlf hlN hBA hBB hB6
                    by_cases hp : 0 < lf
                    · have p1 : decide (0 < lf) = true := decide_eq_true hp
                      rcases hzg.2.1 with hs | hs
                      · have s1 : (z.side == 1) = true := by simp [hs]
                        have s2 : (z.side == 2) = false := by simp [hs]
                        rw [if_pos ⟨hp, hs⟩] at hbN
                        rw [if_neg (by omega)] at haN
                        obtain ⟨b2, hb2⟩ : ∃ b2, max bd z.price = b2 := ⟨_, rfl⟩
                        rw [hb2] at hbN
                        have HN := Lib.hid (And.intro hbN.symm haN.symm)
                        clear hbN haN hp hs hzg
                        go_wp2_with fail
                        go_roundg (k - (j + 1))
                        case measure => omega
                        case rel => exact ⟨j + 1, b2, ak, rfl, rfl, by go_num, by omega, by omega, HN, HB8⟩
                      · have s1 : (z.side == 1) = false := by simp [hs]
                        have s2 : (z.side == 2) = true := by simp [hs]
                        rw [if_neg (by omega)] at hbN
                        rw [if_pos ⟨hp, hs⟩] at haN
                        obtain ⟨a2, ha2⟩ : ∃ a2, min ak z.price = a2 := ⟨_, rfl⟩
                        rw [ha2] at haN
                        have HN := Lib.hid (And.intro hbN.symm haN.symm)
                        clear hbN haN hp hs hzg
                        go_wp2_with fail
                        go_roundg (k - (j + 1))
                        case measure => omega
                        case rel => exact ⟨j + 1, bd, a2, rfl, rfl, by go_num, by omega, by omega, HN, HB8⟩
                    · have p1 : decide (0 < lf) = false := decide_eq_false hp
                      rw [if_neg (fun h => hp h.1)] at hbN haN
                      have HN := Lib.hid (And.intro hbN.symm haN.symm)
                      clear hbN haN hp hzg
                      go_wp2_with fail
                      go_roundg (k - (j + 1))
                      case measure => omega
                      case rel => exact ⟨j + 1, bd, ak, rfl, rfl, by go_num, by omega, by omega, HN, HB8⟩
              · have hjI : ¬ (j : Int) < (k : Int) := by omega
                obtain rfl : j = k := by omega
                have hlt9 : bd < ak := by rw [hBA.out.1, hBA.out.2, ← HL.out]; exact CK.out.bid
                have B9 := Lib.hid (B3.out.trans (hB6.out.mono B3.out.size))
                clear hBA hB6
                go_wp2_with ((with_reducible refine (lives19_c _).mono ?_); rintro e w9 ⟨rfl, b9⟩)
                go_ret
                exact ⟨rfl, B9.out.trans (b9.mono B9.out.size)⟩
set_option maxHeartbeats 4000000 in
set_option maxRecDepth 100000 in
theorem clears_2 (A : Option Addr) (n c : Nat) (L : List Od) (last mode lot : Int) (hl : InR last) (hlot : InR lot) (w : World) (HO : Ods w A n L) (hnc : n ≤ c) (hn : n ≤ 64) (hl1 : 1 ≤ lot) (hl2 : lot ≤ 1099511627776) (hmd : mode = 1 ∨ mode = 2) (hm : (mode != 1) = true) (hm2 : (mode != 2) = false) :
    Calls Try.prog 6 #[.slice A n c, .int .i64 last, .int .i64 mode, .int .i64 lot] w fun e w' => e = .returned (.bool true) ∧ Below w.heap.size w w' := by
  have g0 : decide ((64 : Int) < (n : Int)) = false := decide_eq_false (by omega)
  have g1 : decide (lot < 1) = false := decide_eq_false (by omega)
  have g2 : decide (1099511627776 < lot) = false := decide_eq_false (by omega)
  have HL := Lib.hid HO.1
  have HH := Lib.hid HO
  have HLast := Lib.hid hl
  have HLot := Lib.hid hlot
  have HMD := Lib.hid hmd
  have HLB := Lib.hid (And.intro hl1 hl2)
  have k0 : (lot == 0) = false := by simp; omega
  have k1 : ¬ lot = 0 := by omega
  have hlb2 : lot ≤ 9223372036854775807 := by omega
  clear HO hl hlot hl2 hmd
  go_enter Try.func6, Try.ntmps6
  go_wp2_with fail
  clear g0 g1 g2
  go_loopg [46] n (fun kx s46 wr => ∃ k : Nat, s46 = .int .i64 (k : Int) ∧ k ≤ n ∧ n - k ≤ kx ∧ Hid (∀ j, j < k → (L[j]!).qty.tmod lot = 0) ∧ Hid (Below w.heap.size w wr))
  case atStart => exact ⟨0, rfl, by omega, by omega, Lib.hid (fun j hj => absurd hj (Nat.not_lt_zero _)), Lib.hid (Below.refl _ _)⟩
  case round =>
    obtain ⟨k, rfl, hk, hkx, hM, hB⟩ := hrel
    by_cases hlt : k < n
    · have hltI : (k : Int) < (n : Int) := by omega
      have hk0 : (0 : Int) ≤ (k : Int) := by omega
      have hO := HH.out.below hB.out
      obtain ⟨b, off, rfl, hb, hc⟩ : ∃ b off, A = some ⟨b, off, none⟩ ∧ b < wr.heap.size ∧ ∀ i, i < n → (L[i]!).at wr b (off + i * 6) := by
        rcases hO.2.2.2 with h | h
        · omega
        · exact h
      have hx := hc k hlt
      have hok := hO.2.2.1 (L[k]!) (by rw [getElem!_pos L k (by rw [HL.out]; exact hlt)]; exact List.getElem_mem _)
      obtain ⟨x, ex⟩ : ∃ x, L[k]! = x := ⟨_, rfl⟩
      rw [ex] at hx hok
      have HX := Lib.hid ex
      have hqr := hok.2.2.2.2.1
      have hB2 := Lib.hid (hB.out.alloc hB.out.size (.cells #[.int .u64 x.id, .int .i64 x.acc, .int .i64 x.side, .int .i64 x.price, .int .i64 x.qty, .int .u64 x.seq] 42))
      clear hc hO ex hok
      obtain ⟨x0, x1, x2, x3, x4, x5⟩ := hx
      obtain ⟨r, hr⟩ : ∃ r, (x.qty).tmod lot = r := ⟨_, rfl⟩
      by_cases r0 : r = 0
      · have gr : (r != 0) = false := by simp [r0]
        have hM2 : Hid (∀ j, j < k + 1 → (L[j]!).qty.tmod lot = 0) := Lib.hid (fun j hj => by
          by_cases e : j < k
          · exact hM.out j e
          · obtain rfl : j = k := by omega
            rw [HX.out, hr, r0])
        clear r0
        go_wp2_with fail
        go_roundg (n - (k + 1))
        case measure => omega
        case rel => exact ⟨k + 1, by go_num, by omega, by omega, hM2, hB2⟩
      · have gr : (r != 0) = true := by simp [r0]
        clear r0
        go_wp2_with ((with_reducible refine (lives19_c _).mono ?_); rintro e w5 ⟨rfl, b5⟩)
        go_ret
        exact ⟨rfl, hB2.out.trans (b5.mono hB2.out.size)⟩
    · have hltI : ¬ (k : Int) < (n : Int) := by omega
      obtain rfl : k = n := by omega
      have HC := Lib.hid (cl_cases (last := last) HLB.out.1 HLB.out.2 HMD.out (fun j hj => hM.out j (by rw [HL.out] at hj; exact hj)))
      have HPr := Lib.hid (price_c A k c L last wr (HH.out.below hB.out) HLast.out)
      have HDe := Lib.hid (fun w1 p v (hb : Below wr.heap.size wr w1) => deals_c A k c L p v mode lot w1 ((HH.out.below hB.out).below hb) hnc HLot.out (by omega))
      clear hM
      obtain ⟨P1, hP1⟩ : ∃ P, P = (priS L last).1 := ⟨_, rfl⟩
      obtain ⟨P2, hP2⟩ : ∃ P, P = (priS L last).2 := ⟨_, rfl⟩
      rw [← hP1, ← hP2] at HPr HC
      have hlen := dlS_len L P1 P2 mode lot
      have HD1 := Lib.hid (fun w1 hb => HDe.out w1 P1 P2 hb)
      clear hP1 hP2 HDe
      obtain ⟨D, hD⟩ : ∃ D, D = dlS L P1 P2 mode lot := ⟨_, rfl⟩
      rw [← hD] at HD1 HC hlen
      clear hD
      go_wp2_with fail
      ((with_reducible refine HPr.out.mono ?_); rintro e w1 ⟨rfl, b1⟩)
      have B1 := Lib.hid (hB.out.trans (b1.mono hB.out.size))
      have HD2 := Lib.hid (HD1.out w1 b1)
      clear b1 HPr HD1 hB
      go_wp2_with fail
      ((with_reducible refine HD2.out.mono ?_); rintro e w2 ⟨vD, rfl, h2⟩)
      have B2 := Lib.hid (B1.out.trans (h2.out.1.mono B1.out.size))
      have R2 := Lib.hid (DlAt.of h2.out.2)
      clear HD2 h2 B1
      obtain ⟨A1, c1, rfl⟩ := R2.out.len
      obtain ⟨m, hm⟩ : ∃ m, m = D.length := ⟨_, rfl⟩
      rw [← hm] at hlen
      rw [← hm]
      have HM := Lib.hid hm
      clear hm
      by_cases hz : P2 = 0
      · have hz0 : P1 = 0 ∧ D = [] := by
          rcases HC.out with h | h
          · exact ⟨h.1, h.2.2⟩
          · omega
        have e1 : (P2 == 0) = true := by simp [hz]
        have e2 : (P1 == 0) = true := by simp [hz0.1]
        have hm0 : m = 0 := by rw [HM.out, hz0.2]; rfl
        have e3 : ((m : Int) == 0) = true := by simp [hm0]
        clear hz hz0 hm0 HC R2
        go_wp2_with ((with_reducible refine (lives19_c _).mono ?_); rintro e w5 ⟨rfl, b5⟩)
        go_ret
        exact ⟨rfl, B2.out.trans (b5.mono B2.out.size)⟩
      · have e1 : (P2 == 0) = false := by simp [hz]
        have CK : Hid (ClOk L D P1 P2) := Lib.hid (by
          rcases HC.out with h | h
          · exact absurd h.2.1 hz
          · exact h.2)
        clear hz HC
        go_wp2_with fail
        go_loopg [14, 83] m (fun kx s14 s83 wr => ∃ (i : Nat) (al : Int), s14 = .int .i64 al ∧ s83 = .int .i64 (i : Int) ∧ i ≤ m ∧ m - i ≤ kx ∧ Hid (al = sumD (D.take i)) ∧ Hid (Below w2.heap.size w2 wr))
        case atStart => exact ⟨0, 0, rfl, rfl, by omega, by omega, Lib.hid rfl, Lib.hid (Below.refl _ _)⟩
        case round =>
          obtain ⟨i, al, rfl, rfl, hi, hix, hA, hB⟩ := hrel
          by_cases hil : i < m
          · have hiI : (i : Int) < (m : Int) := by omega
            have hi0 : (0 : Int) ≤ (i : Int) := by omega
            have hR := R2.out.below hB.out
            obtain ⟨k1', rfl, hk1', hc1⟩ : ∃ k1, A1 = some ⟨k1, 0, none⟩ ∧ k1 < wr.heap.size ∧ TrAt wr k1 i L[(D[i]!).1]! L[(D[i]!).2.1]! (D[i]!).2.2 := by
              rcases hR with ⟨h0, _⟩ | ⟨k1, cap, hv, hlt, hc⟩
              · have := HM.out; omega
              · injection hv with hv _ _; exact ⟨k1, hv, hlt, hc i (by rw [← HM.out]; exact hil)⟩
            have hdi := CK.out.d (D[i]!) (bangD_mem (by rw [← HM.out]; exact hil))
            have hsu := (CK.out.sums (i + 1))
            have hsn := CK.out.n
            have hst := sumD_take (D := D) (k := i) (by rw [← HM.out]; exact hil)
            have hs0 := (CK.out.sums i).1
            obtain ⟨q, hq⟩ : ∃ q, q = (D[i]!).2.2 := ⟨_, rfl⟩
            rw [← hq] at hc1 hdi hst
            rw [← hA.out] at hst hs0
            generalize L[(D[i]!).1]! = x at hc1 hdi
            generalize L[(D[i]!).2.1]! = y at hc1 hdi
            have a0 : wr.cell? ⟨k1', i * 13, none⟩ = some (.int .u64 x.id) := hc1 0 _ rfl
            have a1 : wr.cell? ⟨k1', i * 13 + 1, none⟩ = some (.int .i64 x.acc) := hc1 1 _ rfl
            have a2 : wr.cell? ⟨k1', i * 13 + 2, none⟩ = some (.int .i64 x.side) := hc1 2 _ rfl
            have a3 : wr.cell? ⟨k1', i * 13 + 3, none⟩ = some (.int .i64 x.price) := hc1 3 _ rfl
            have a4 : wr.cell? ⟨k1', i * 13 + 4, none⟩ = some (.int .i64 x.qty) := hc1 4 _ rfl
            have a5 : wr.cell? ⟨k1', i * 13 + 5, none⟩ = some (.int .u64 x.seq) := hc1 5 _ rfl
            have a6 : wr.cell? ⟨k1', i * 13 + 6, none⟩ = some (.int .u64 y.id) := hc1 6 _ rfl
            have a7 : wr.cell? ⟨k1', i * 13 + 7, none⟩ = some (.int .i64 y.acc) := hc1 7 _ rfl
            have a8 : wr.cell? ⟨k1', i * 13 + 8, none⟩ = some (.int .i64 y.side) := hc1 8 _ rfl
            have a9 : wr.cell? ⟨k1', i * 13 + 9, none⟩ = some (.int .i64 y.price) := hc1 9 _ rfl
            have a10 : wr.cell? ⟨k1', i * 13 + 10, none⟩ = some (.int .i64 y.qty) := hc1 10 _ rfl
            have a11 : wr.cell? ⟨k1', i * 13 + 11, none⟩ = some (.int .u64 y.seq) := hc1 11 _ rfl
            have a12 : wr.cell? ⟨k1', i * 13 + 12, none⟩ = some (.int .i64 q) := hc1 12 _ rfl
            have f1 : decide (q < 1) = false := decide_eq_false (by omega)
            have f2 : decide (x.price < P1) = false := decide_eq_false (by omega)
            have f3 : decide (P1 < y.price) = false := decide_eq_false (by omega)
            have f4 : (x.side != 1) = false := by simp [hdi.2.2.2.2.1]
            have f5 : (y.side != 2) = false := by simp [hdi.2.2.2.2.2]
            have f6 : IntKind.i64.wrap (al + q) = al + q := by rw [IntKind.wrap_i64]; omega
            have f7 : -9223372036854775808 ≤ al + q ∧ al + q < 9223372036854775808 := by omega
            obtain ⟨f8, f9⟩ := f7
            have hA2 : Hid (al + q = sumD (D.take (i + 1))) := Lib.hid hst.symm
            have hB3 := Lib.hid (hB.out.alloc hB.out.size (.cells (encT x y q).toArray 44))
            clear hc1 hR hdi hsu hsn hst hs0 hq
            go_wp2_with fail
            go_roundg (m - (i + 1))
            case measure => omega
            case rel => exact ⟨i + 1, al + q, rfl, by go_num, by omega, by omega, hA2, hB3⟩
          · have hiI : ¬ (i : Int) < (m : Int) := by omega
            obtain rfl : i = m := by omega
            have hal : al = P2 := by rw [hA.out, List.take_of_length_le (by rw [← HM.out]; exact Nat.le_refl _), CK.out.s]
            subst hal
            have eal : (al == al) = true := by simp
            have B3 := Lib.hid (B2.out.trans (hB.out.mono B2.out.size))
            have R3 := Lib.hid (R2.out.below hB.out)
            have H3 := Lib.hid (HH.out.below B3.out)
            clear hA R2 hB B2 HH
            go_wp2_with fail
            go_loopg [17, 18, 123] k (fun kx s17 s18 s123 wx => ∃ (j : Nat) (bd ak : Int), s17 = .int .i64 bd ∧ s18 = .int .i64 ak ∧ s123 = .int .i64 (j : Int) ∧ j ≤ k ∧ k - j ≤ kx ∧ Hid (bd = bdN L D j ∧ ak = akN L D j) ∧ Hid (Below wr.heap.size wr wx))
            case atStart => exact ⟨0, 0, 1099511627777, rfl, rfl, rfl, by omega, by omega, Lib.hid ⟨rfl, rfl⟩, Lib.hid (Below.refl _ _)⟩
            case round =>
              obtain ⟨j, bd, ak, rfl, rfl, rfl, hj, hjx, hBA, hB6⟩ := hrel
              obtain ⟨w6, e6⟩ : ∃ w6, w6 = wr := ⟨_, rfl⟩
              subst e6
              by_cases hjl : j < k
              · have hjI : (j : Int) < (k : Int) := by omega
                have hj0 : (0 : Int) ≤ (j : Int) := by omega
                have hO := H3.out.below hB6.out
                have hR6 := Lib.hid (R3.out.below hB6.out)
                obtain ⟨b, off, rfl, hb, hc⟩ : ∃ b off, A = some ⟨b, off, none⟩ ∧ b < w6.heap.size ∧ ∀ i, i < k → (L[i]!).at w6 b (off + i * 6) := by
                  rcases hO.2.2.2 with h | h
                  · omega
                  · exact h
                have hx := hc j hjl
                obtain ⟨z, ez⟩ : ∃ z, L[j]! = z := ⟨_, rfl⟩
                rw [ez] at hx
                have HZ := Lib.hid ez
                have HJL : Hid (j < L.length) := Lib.hid (by rw [HL.out]; exact hjl)
                have hl0 := CK.out.lefts HJL.out 0
                have hqe : z.qty = (L[j]!).qty - usN j (D.take 0) := by rw [ez]; simp [usN]
                rw [← hqe] at hl0
                have HQE := Lib.hid hqe
                clear hc hO ez hqe
                obtain ⟨z0, z1, z2, z3, z4, z5⟩ := hx
                have HBZ : Hid ((w6.alloc (.cells (OC z) 42)).heap[w6.heap.size]? = some (.cells (OC z) 42 (0, 0))) := Lib.hid (heap_alloc_new _ _)
                go_wp2_with fail
                go_loopg [21, 131] i (fun kx s21 s131 wx => ∃ (a : Nat) (lf : Int), s21 = .int .i64 lf ∧ s131 = .int .i64 (a : Int) ∧ a ≤ i ∧ i - a ≤ kx ∧ Hid (lf = (L[j]!).qty - usN j (D.take a)) ∧ Hid (Below w6.heap.size w6 wx ∧ wx.heap[w6.heap.size]? = some (.cells (OC z) 42 (0, 0))))
                case atStart => exact ⟨0, z.qty, rfl, rfl, by omega, by omega, HQE, Lib.hid ⟨(Below.refl _ _).alloc (Nat.le_refl _) _, HBZ.out⟩⟩
                case round =>
                  obtain ⟨a, lf, rfl, rfl, ha, hax, hlf, hBB⟩ := hrel
                  have t0 : wr.cell? ⟨w6.heap.size, 0, none⟩ = some (.int .u64 z.id) := by rw [cell_of_row _ _ _ _ _ _ hBB.out.2]; rfl
                  have t1 : wr.cell? ⟨w6.heap.size, 1, none⟩ = some (.int .i64 z.acc) := by rw [cell_of_row _ _ _ _ _ _ hBB.out.2]; rfl
                  have t2 : wr.cell? ⟨w6.heap.size, 2, none⟩ = some (.int .i64 z.side) := by rw [cell_of_row _ _ _ _ _ _ hBB.out.2]; rfl
                  have t3 : wr.cell? ⟨w6.heap.size, 3, none⟩ = some (.int .i64 z.price) := by rw [cell_of_row _ _ _ _ _ _ hBB.out.2]; rfl
                  have t4 : wr.cell? ⟨w6.heap.size, 4, none⟩ = some (.int .i64 z.qty) := by rw [cell_of_row _ _ _ _ _ _ hBB.out.2]; rfl
                  have t5 : wr.cell? ⟨w6.heap.size, 5, none⟩ = some (.int .u64 z.seq) := by rw [cell_of_row _ _ _ _ _ _ hBB.out.2]; rfl
                  by_cases hal2 : a < i
                  · have haI : (a : Int) < (i : Int) := by omega
                    have ha0 : (0 : Int) ≤ (a : Int) := by omega
                    have hR := hR6.out.below hBB.out.1
                    obtain ⟨k1', rfl, hk1', hc1⟩ : ∃ k1, A1 = some ⟨k1, 0, none⟩ ∧ k1 < wr.heap.size ∧ TrAt wr k1 a L[(D[a]!).1]! L[(D[a]!).2.1]! (D[a]!).2.2 := by
                      rcases hR with ⟨h0, _⟩ | ⟨k1, cap, hv, hlt, hc⟩
                      · have := HM.out; omega
                      · injection hv with hv _ _; exact ⟨k1, hv, hlt, hc a (by rw [← HM.out]; exact hal2)⟩
                    have hdi := CK.out.d (D[a]!) (bangD_mem (by rw [← HM.out]; exact hal2))
                    have hut := usN_take (D := D) (k := j) (i := a) (by rw [← HM.out]; exact hal2)
                    have hl1' := CK.out.lefts HJL.out a
                    have hl2' := CK.out.lefts HJL.out (a + 1)
                    rw [← hlf.out] at hl1'
                    have hs1 := CK.out.same hdi.1.1 HJL.out
                    have hs2 := CK.out.same hdi.1.2 HJL.out
                    rw [HZ.out] at hs1 hs2
                    obtain ⟨q, hq⟩ : ∃ q, q = (D[a]!).2.2 := ⟨_, rfl⟩
                    rw [← hq] at hc1 hdi hut
                    generalize L[(D[a]!).1]! = x at hc1 hdi hs1
                    generalize L[(D[a]!).2.1]! = y at hc1 hdi hs2
                    have a0 : wr.cell? ⟨k1', a * 13, none⟩ = some (.int .u64 x.id) := hc1 0 _ rfl
                    have a1 : wr.cell? ⟨k1', a * 13 + 1, none⟩ = some (.int .i64 x.acc) := hc1 1 _ rfl
                    have a2 : wr.cell? ⟨k1', a * 13 + 2, none⟩ = some (.int .i64 x.side) := hc1 2 _ rfl
                    have a3 : wr.cell? ⟨k1', a * 13 + 3, none⟩ = some (.int .i64 x.price) := hc1 3 _ rfl
                    have a4 : wr.cell? ⟨k1', a * 13 + 4, none⟩ = some (.int .i64 x.qty) := hc1 4 _ rfl
                    have a5 : wr.cell? ⟨k1', a * 13 + 5, none⟩ = some (.int .u64 x.seq) := hc1 5 _ rfl
                    have a6 : wr.cell? ⟨k1', a * 13 + 6, none⟩ = some (.int .u64 y.id) := hc1 6 _ rfl
                    have a7 : wr.cell? ⟨k1', a * 13 + 7, none⟩ = some (.int .i64 y.acc) := hc1 7 _ rfl
                    have a8 : wr.cell? ⟨k1', a * 13 + 8, none⟩ = some (.int .i64 y.side) := hc1 8 _ rfl
                    have a9 : wr.cell? ⟨k1', a * 13 + 9, none⟩ = some (.int .i64 y.price) := hc1 9 _ rfl
                    have a10 : wr.cell? ⟨k1', a * 13 + 10, none⟩ = some (.int .i64 y.qty) := hc1 10 _ rfl
                    have a11 : wr.cell? ⟨k1', a * 13 + 11, none⟩ = some (.int .u64 y.seq) := hc1 11 _ rfl
                    have a12 : wr.cell? ⟨k1', a * 13 + 12, none⟩ = some (.int .i64 q) := hc1 12 _ rfl
                    have hq1 : 1 ≤ q := hdi.2.1
                    have hwz : wr.heap.size = wr.heap.size := rfl
                    have hlt6 : w6.heap.size < wr.heap.size := blk_lt hBB.out.2
                    have r1 := eq_ordP x z
                    have r2 := eq_ordP y z
                    have r3 : ∀ w, (binOp .eql 42 (.agg (OC x)) (.agg (OC z))).run Try.prog w = .ok (.bool (eqO x z)) w := fun w => by rw [run_eql_struct, eq_ordP]; rfl
                    have r4 : ∀ w, (binOp .eql 42 (.agg (OC y)) (.agg (OC z))).run Try.prog w = .ok (.bool (eqO y z)) w := fun w => by rw [run_eql_struct, eq_ordP]; rfl
                    have hB7 := Lib.hid (And.intro (hBB.out.1.alloc hBB.out.1.size (.cells (encT x y q).toArray 44)) ((Below.heap_alloc wr (.cells (encT x y q).toArray 44) _ (blk_lt hBB.out.2)).trans hBB.out.2))
                    clear hc1 hR hdi hq
                    by_cases q1 : (D[a]!).1 = j ∨ (D[a]!).2.1 = j
                    · rw [if_pos q1] at hut
                      have hlf2 : Hid (lf - q = (L[j]!).qty - usN j (D.take (a + 1))) := Lib.hid (by rw [hut, hlf.out]; omega)
                      have hlr : 0 ≤ lf - q := by rw [hlf2.out]; exact hl2'.1
                      have hsub : IntKind.i64.wrap (lf - q) = lf - q := by rw [IntKind.wrap_i64]; omega
                      obtain ⟨hl3, hl4⟩ := hl1'
                      clear hl2' hut
                      cases c1x : eqO x z with
                      | true =>
                        rw [c1x] at r1 r3
                        clear q1 hs1 hs2 c1x
                        go_wp2_with fail
                        go_roundg (i - (a + 1))
                        case measure => omega
                        case rel => exact ⟨a + 1, lf - q, rfl, by go_num, by omega, by omega, hlf2, hB7⟩
                      | false =>
                        have c2x : eqO y z = true := by
                          rcases q1 with h | h
                          · rw [c1x, decide_eq_true h] at hs1; cases hs1
                          · rw [hs2, decide_eq_true h]
                        rw [c1x] at r1 r3
                        rw [c2x] at r2 r4
                        clear q1 hs1 hs2 c1x c2x
                        go_wp2_with fail
                        go_roundg (i - (a + 1))
                        case measure => omega
                        case rel => exact ⟨a + 1, lf - q, rfl, by go_num, by omega, by omega, hlf2, hB7⟩
                    · rw [if_neg q1] at hut
                      have c1x : eqO x z = false := by rw [hs1, decide_eq_false (fun h => q1 (.inl h))]
                      have c2x : eqO y z = false := by rw [hs2, decide_eq_false (fun h => q1 (.inr h))]
                      have hlf2 : Hid (lf = (L[j]!).qty - usN j (D.take (a + 1))) := Lib.hid (by rw [hut, hlf.out]; omega)
                      rw [c1x] at r1 r3
                      rw [c2x] at r2 r4
                      clear q1 hs1 hs2 c1x c2x hl1' hl2' hut
                      go_wp2_with fail
                      go_roundg (i - (a + 1))
                      case measure => omega
                      case rel => exact ⟨a + 1, lf, rfl, by go_num, by omega, by omega, hlf2, hB7⟩
                  · have haI : ¬ (a : Int) < (i : Int) := by omega
                    obtain rfl : a = i := by omega
                    have hlN : lf = lftN L D j := by rw [CK.out.lft HJL.out, hlf.out, List.take_of_length_le (by rw [← HM.out]; exact Nat.le_refl _)]
                    have hl0' := CK.out.l j HJL.out
                    rw [← hlN] at hl0'
                    have HLN := Lib.hid hlN
                    have hzg := good_qty (CK.out.g (L[j]!) (bang_mem HJL.out))
                    rw [HZ.out] at hzg
                    have HB8 := Lib.hid (hB6.out.trans (hBB.out.1.mono hB6.out.size))
                    have g9 : decide (lf < 0) = false := decide_eq_false (by omega)
                    have hbN : bdN L D (j + 1) = if 0 < lf ∧ z.side = 1 then max bd z.price else bd := by rw [bdN, ← hBA.out.1, ← hlN, HZ.out]
                    have haN : akN L D (j + 1) = if 0 < lf ∧ z.side = 2 then min ak z.price else ak := by rw [akN, ← hBA.out.2, ← hlN, HZ.out]
                    clear hlf hlN hBA hBB hB6
                    by_cases hp : 0 < lf
                    · have p1 : decide (0 < lf) = true := decide_eq_true hp
                      rcases hzg.2.1 with hs | hs
                      · have s1 : (z.side == 1) = true := by simp [hs]
                        have s2 : (z.side == 2) = false := by simp [hs]
                        rw [if_pos ⟨hp, hs⟩] at hbN
                        rw [if_neg (by omega)] at haN
                        obtain ⟨b2, hb2⟩ : ∃ b2, max bd z.price = b2 := ⟨_, rfl⟩
                        rw [hb2] at hbN
                        have HN := Lib.hid (And.intro hbN.symm haN.symm)
                        clear hbN haN hp hs hzg
                        go_wp2_with fail
                        go_roundg (k - (j + 1))
                        case measure => omega
                        case rel => exact ⟨j + 1, b2, ak, rfl, rfl, by go_num, by omega, by omega, HN, HB8⟩
                      · have s1 : (z.side == 1) = false := by simp [hs]
                        have s2 : (z.side == 2) = true := by simp [hs]
                        rw [if_neg (by omega)] at hbN
                        rw [if_pos ⟨hp, hs⟩] at haN
                        obtain ⟨a2, ha2⟩ : ∃ a2, min ak z.price = a2 := ⟨_, rfl⟩
                        rw [ha2] at haN
                        have HN := Lib.hid (And.intro hbN.symm haN.symm)
                        clear hbN haN hp hs hzg
                        go_wp2_with fail
                        go_roundg (k - (j + 1))
                        case measure => omega
                        case rel => exact ⟨j + 1, bd, a2, rfl, rfl, by go_num, by omega, by omega, HN, HB8⟩
                    · have p1 : decide (0 < lf) = false := decide_eq_false hp
                      rw [if_neg (fun h => hp h.1)] at hbN haN
                      have HN := Lib.hid (And.intro hbN.symm haN.symm)
                      clear hbN haN hp hzg
                      go_wp2_with fail
                      go_roundg (k - (j + 1))
                      case measure => omega
                      case rel => exact ⟨j + 1, bd, ak, rfl, rfl, by go_num, by omega, by omega, HN, HB8⟩
              · have hjI : ¬ (j : Int) < (k : Int) := by omega
                obtain rfl : j = k := by omega
                have hlt9 : bd < ak := by rw [hBA.out.1, hBA.out.2, ← HL.out]; exact CK.out.bid
                have B9 := Lib.hid (B3.out.trans (hB6.out.mono B3.out.size))
                clear hBA hB6
                go_wp2_with ((with_reducible refine (lives19_c _).mono ?_); rintro e w9 ⟨rfl, b9⟩)
                go_ret
                exact ⟨rfl, B9.out.trans (b9.mono B9.out.size)⟩
set_option maxHeartbeats 4000000 in
set_option maxRecDepth 100000 in
theorem clears_w (A : Option Addr) (n c : Nat) (its : List Od) (last mode lot : Int) (hl : InR last) (hlot : InR lot) (w : World) (HO : Ods w A n its) (hnc : n ≤ c) :
    Calls Try.prog 6 #[.slice A n c, .int .i64 last, .int .i64 mode, .int .i64 lot] w fun e w' => e = .returned (.bool true) ∧ Below w.heap.size w w' := by
  by_cases q0 : 64 < n
  · have g0 : decide ((64 : Int) < (n : Int)) = true := decide_eq_true (by omega)
    clear HO hl hlot hnc
    go_enter Try.func6, Try.ntmps6
    go_wp2_with ((with_reducible refine (lives19_c _).mono ?_); rintro e w5 ⟨rfl, b5⟩)
    go_ret
    exact ⟨rfl, b5⟩
  · by_cases q1 : lot < 1
    · have g0 : decide ((64 : Int) < (n : Int)) = false := decide_eq_false (by omega)
      have g1 : decide (lot < 1) = true := decide_eq_true q1
      clear HO hl hlot hnc
      go_enter Try.func6, Try.ntmps6
      go_wp2_with ((with_reducible refine (lives19_c _).mono ?_); rintro e w5 ⟨rfl, b5⟩)
      go_ret
      exact ⟨rfl, b5⟩
    · by_cases q2 : 1099511627776 < lot
      · have g0 : decide ((64 : Int) < (n : Int)) = false := decide_eq_false (by omega)
        have g1 : decide (lot < 1) = false := decide_eq_false q1
        have g2 : decide (1099511627776 < lot) = true := decide_eq_true q2
        clear HO hl hlot hnc
        go_enter Try.func6, Try.ntmps6
        go_wp2_with ((with_reducible refine (lives19_c _).mono ?_); rintro e w5 ⟨rfl, b5⟩)
        go_ret
        exact ⟨rfl, b5⟩
      · by_cases q3 : mode = 1
        · exact clears_1 A n c its last mode lot hl hlot w HO hnc (by omega) (by omega) (by omega) (.inl q3) (by simp [q3])
        · by_cases q4 : mode = 2
          · exact clears_2 A n c its last mode lot hl hlot w HO hnc (by omega) (by omega) (by omega) (.inr q4) (by simp [q4]) (by simp [q4])
          · have g0 : decide ((64 : Int) < (n : Int)) = false := decide_eq_false (by omega)
            have g1 : decide (lot < 1) = false := decide_eq_false q1
            have g2 : decide (1099511627776 < lot) = false := decide_eq_false q2
            have g3 : (mode != 1) = true := by simp [q3]
            have g4 : (mode != 2) = true := by simp [q4]
            clear HO hl hlot hnc
            go_enter Try.func6, Try.ntmps6
            go_wp2_with ((with_reducible refine (lives19_c _).mono ?_); rintro e w5 ⟨rfl, b5⟩)
            go_ret
            exact ⟨rfl, b5⟩
end Go.Proofs.Ytdjbnnjcifgnlaa
