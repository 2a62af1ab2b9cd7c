/- The reference's Sum and Less. -/
import Derived.Test.YtghpafbgjbhohaaRefL
import Derived.Test.YtghpafbgjbhohaaCoinS
namespace Go.Proofs.Ytghpafbgjbhohaa
open Go.RowKit

set_option maxHeartbeats 4000000 in
set_option maxRecDepth 100000 in
theorem refLess_c (a b c d : Int) (ha : InR a) (hb : InR b) (hc : InR c) (hd : InR d) (w : World) :
    Calls Try.prog 35 #[.int .i64 a, .int .i64 b, .int .i64 c, .int .i64 d] w fun e w' => e = .returned (.bool (decide (a * b < c * d))) ∧ Below w.heap.size w w' := by
  have hz := zero83
  have Ha := Lib.hid ha
  have Hb := Lib.hid hb
  have Hc := Lib.hid hc
  have Hd := Lib.hid hd
  have m1 := mul_rng ha hb
  have m2 := mul_rng hc hd
  have H1 : Hid ((a * b).natAbs < 2 ^ 135) := by show _ < _; omega
  have H2 : Hid ((-(c * d)).natAbs < 2 ^ 135) := by show _ < _; omega
  have H3 : Hid ((c * d).natAbs < 2 ^ 136) := by show _ < _; omega
  clear ha hb hc hd m1 m2
  obtain ⟨r, hr⟩ : ∃ r, r = decide (a * b < c * d) := ⟨_, rfl⟩
  rw [← hr]
  have hn : NZ (a * b + -(c * d)) = NC (a * b + -(c * d)).natAbs r := by
    unfold NZ; rw [hr]; congr 1; simp only [decide_eq_decide]; omega
  have HP : Hid (∀ w, Calls Try.prog 43 #[.agg (NZ (a * b)), .agg (NZ (-(c * d)))] w fun e w' => e = .returned (.agg (NC (a * b + -(c * d)).natAbs r)) ∧ Below w.heap.size w w') := by
    intro w; rw [← hn]; exact Plus_z _ _ H1.out H2.out w
  clear hr hn
  generalize (a * b + -(c * d)).natAbs = m at *
  have gs := NC_sign m r
  go_enter Try.func35, Try.ntmps35
  go_wp2_with fail
  ((with_reducible refine (Of_z a Ha.out _).mono ?_); rintro e w1 ⟨rfl, b1⟩)
  go_wp2_with fail
  ((with_reducible refine (Of_z b Hb.out _).mono ?_); rintro e w2 ⟨rfl, b2⟩)
  go_wp2_with fail
  ((with_reducible refine (Times_z a b Ha.out Hb.out _).mono ?_); rintro e w3 ⟨rfl, b3⟩)
  go_wp2_with fail
  ((with_reducible refine (Of_z c Hc.out _).mono ?_); rintro e w4 ⟨rfl, b4⟩)
  go_wp2_with fail
  ((with_reducible refine (Of_z d Hd.out _).mono ?_); rintro e w5 ⟨rfl, b5⟩)
  go_wp2_with fail
  ((with_reducible refine (Times_z c d Hc.out Hd.out _).mono ?_); rintro e w6 ⟨rfl, b6⟩)
  go_wp2_with fail
  ((with_reducible refine (Minus_c (c * d) H3.out _).mono ?_); rintro e w7 ⟨rfl, b7⟩)
  go_wp2_with fail
  ((with_reducible refine (HP.out _).mono ?_); rintro e w8 ⟨rfl, b8⟩)
  have hB : Below w.heap.size w w8 := by
    have s1 := b1.size
    have s2 := b2.size
    have s3 := b3.size
    have s4 := b4.size
    have s5 := b5.size
    have s6 := b6.size
    have s7 := b7.size
    exact (((((((b1.trans (b2.mono (by omega))).trans (b3.mono (by omega))).trans (b4.mono (by omega))).trans (b5.mono (by omega))).trans (b6.mono (by omega))).trans (b7.mono (by omega))).trans (b8.mono (by omega)))
  have hz8 := hB.size
  clear b1 b2 b3 b4 b5 b6 b7 b8
  go_wp2_with (first | (first | ((with_reducible apply store83_0); rfl; rfl; rfl; rfl; (focus (simp; done)); skip) | ((with_reducible apply store83_1); rfl; rfl; rfl; rfl; (focus (simp; done)); skip) | ((with_reducible apply store83_2); rfl; rfl; rfl; rfl; (focus (simp; done)); skip) | ((with_reducible apply store83_3); rfl; rfl; rfl; rfl; (focus (simp; done)); skip) | ((with_reducible apply store83_4); rfl; rfl; rfl; rfl; (focus (simp; done)); skip)))
  go_ret
  first | exact ⟨rfl, by (focus ((repeat' (first | (with_reducible exact Below.refl _ _) | (with_reducible assumption) | (with_reducible refine Below.alloc ?_ ?_ _) | (with_reducible refine Below.setCell ?_ ?_ _) | (with_reducible refine Below.row ?_ ?_ _) | (with_reducible refine Below.drew ?_) | (with_reducible refine below_drewN ?_ _) | (focus (first | (simp; done) | omega | (simp; omega))))); done))⟩ | (focus ((repeat' (first | (with_reducible exact Below.refl _ _) | (with_reducible assumption) | (with_reducible refine Below.alloc ?_ ?_ _) | (with_reducible refine Below.setCell ?_ ?_ _) | (with_reducible refine Below.row ?_ ?_ _) | (with_reducible refine Below.drew ?_) | (with_reducible refine below_drewN ?_ _) | (focus (first | (simp; done) | omega | (simp; omega))))); done))

theorem SlI.below {w w' : World} {a : Option Addr} {len : Nat} {zs : List Int} (h : SlI w a len zs) (hb : Below w.heap.size w w') : SlI w' a len zs := by
  obtain ⟨h1, h2, h3⟩ := h
  refine ⟨h1, h2, ?_⟩
  rcases h3 with h3 | ⟨b, off, rfl, hc⟩
  · exact Or.inl h3
  · exact Or.inr ⟨b, off, rfl, fun i hi => cell_below hb (hc i hi)⟩
end Go.Proofs.Ytghpafbgjbhohaa
