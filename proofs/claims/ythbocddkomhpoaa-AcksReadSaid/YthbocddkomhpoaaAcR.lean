/- acks: the reference's: its list of acks in memory, fine, Bit, Has, Of, All. (By mkacr.py.) -/
import Derived.Test.YthbocddkomhpoaaAcN
import Derived.Laws.OwnMore
import Derived.Laws.AppendOwnNone
import Derived.Maps.AppendAt
namespace Go.Proofs.Ythbocddkomhpoaa
open Go.RowKit Go.Lib

def akl (L : Al) : List Value := L.flatMap fun x => [.int .i64 x.1, .int .i64 x.2]
theorem akl_len (L : Al) : (akl L).length = L.length * 2 := by
  induction L with
  | nil => rfl
  | cons x L ih => unfold akl at *; rw [List.flatMap_cons, List.length_append, ih]; simp; omega
theorem akl_app (L M : Al) : akl (L ++ M) = akl L ++ akl M := by unfold akl; rw [List.flatMap_append]
theorem akl_one (L : Al) : ∀ u ∈ akl L, u.oneCell' = true := by
  intro u hu
  unfold akl at hu
  obtain ⟨x, _, hx⟩ := List.mem_flatMap.1 hu
  simp at hx
  rcases hx with rfl | rfl <;> rfl
theorem akl_get (L : Al) : ∀ (i : Nat) (x : Int × Int), L[i]? = some x → (akl L)[i * 2]? = some (.int .i64 x.1) ∧ (akl L)[i * 2 + 1]? = some (.int .i64 x.2) := by
  induction L with
  | nil => intro i x h; simp at h
  | cons y L ih =>
    intro i x h
    have e : akl (y :: L) = .int .i64 y.1 :: .int .i64 y.2 :: akl L := by unfold akl; rw [List.flatMap_cons]; rfl
    rw [e]
    cases i with
    | zero => simp at h; subst h; exact ⟨rfl, rfl⟩
    | succ i =>
      have := ih i x (by simpa using h)
      rw [show (i + 1) * 2 = i * 2 + 1 + 1 by omega]
      exact ⟨by simpa using this.1, by simpa using this.2⟩
theorem info_ak : (Try.prog.info? 69).map (fun i => (i.zero, i.size, i.bytes)) = some (some (.agg #[.int .i64 0, .int .i64 0]), 2, 16) := by kernel_rfl
/-- A list of acks as it lies in memory, in a block of its own from B on. -/
def RL (w : World) (B : Nat) (A : Option Addr) (c : Nat) (L : Al) : Prop := w.ownsRow B 69 2 (.slice A L.length c) L.length (akl L)
theorem RL.nil (w : World) (B : Nat) : RL w B none 0 [] := World.ownsRow_nil _ _ _ _
theorem own_low {w W : World} {b base n size : Nat} {T : TypeId} {v : Value} {xs : List Value} (h : w.ownsRow base T size v n xs) (hb : Below b w W) (hs : b = w.heap.size) : W.ownsRow base T size v n xs := by
  subst hs
  exact own_fr h (S := fun _ => False) (Fr.of_below hb) (fun _ _ h => h)
theorem own_base {w : World} {b base n size : Nat} {T : TypeId} {v : Value} {xs : List Value} (h : w.ownsRow base T size v n xs) (hb : b ≤ base) : w.ownsRow b T size v n xs := by
  obtain ⟨h1, h2⟩ := h
  refine ⟨h1, ?_⟩
  rcases h2 with h2 | ⟨k, cap, cur, a1, a2, a3⟩
  · exact .inl h2
  · exact .inr ⟨k, cap, cur, a1, Nat.le_trans hb a2, a3⟩
theorem RL.below {w W : World} {B : Nat} {A : Option Addr} {c : Nat} {L : Al} (h : RL w B A c L) (hb : Below w.heap.size w W) : RL W B A c L := own_low h hb rfl
theorem RL.low {w : World} {B B' : Nat} {A : Option Addr} {c : Nat} {L : Al} (h : RL w B A c L) (hb : B' ≤ B) : RL w B' A c L := own_base h hb
/-- The list lies in no block below B: what turns there leaves it. -/
theorem RL.fr {w W : World} {S : Nat → Prop} {B : Nat} {A : Option Addr} {c : Nat} {L : Al} (h : RL w B A c L) (hf : Fr S w W) (hS : ∀ k, S k → k < B) : RL W B A c L :=
  own_fr h hf (fun k hk hs => by
    have := hS k hs
    rcases h.2 with ⟨e, _⟩ | ⟨k', cap, cur, e, hb, _⟩
    · rw [e] at hk; cases hk
    · rw [e] at hk
      simp [Value.ownBlock] at hk
      omega)
theorem RL.cells {w : World} {B : Nat} {A : Option Addr} {c : Nat} {L : Al} (h : RL w B A c L) {i : Nat} (hi : i < L.length) :
    ∃ b x1 x2, A = some ⟨b, 0, none⟩ ∧ B ≤ b ∧ b < w.heap.size ∧ L[i]? = some (x1, x2) ∧ w.cell? ⟨b, i * 2, none⟩ = some (.int .i64 x1) ∧ w.cell? ⟨b, i * 2 + 1, none⟩ = some (.int .i64 x2) := by
  rcases h.2 with ⟨_, h0⟩ | ⟨k, cap, cur, e, hb, hk, hc, hm, hs, ht⟩
  · omega
  · injection e with e1 _ _
    subst e1
    have hx := List.getElem?_eq_getElem hi
    have hg := akl_get L i _ hx
    generalize L[i] = x at *
    obtain ⟨x1, x2⟩ := x
    refine ⟨k, x1, x2, rfl, hb, blk_lt hk, hx, ?_, ?_⟩
    · rw [cell_of_row _ _ _ _ _ _ hk]
      have := hg.1
      rw [← ht, List.getElem?_take] at this
      split at this
      · rw [Array.getElem?_toList] at this; exact this
      · cases this
    · rw [cell_of_row _ _ _ _ _ _ hk]
      have := hg.2
      rw [← ht, List.getElem?_take] at this
      split at this
      · rw [Array.getElem?_toList] at this; exact this
      · cases this
set_option maxHeartbeats 4000000 in
set_option maxRecDepth 100000 in
theorem rFine_c (v : Int) (w : World) :
    Calls Try.prog 29 #[.int .i64 v] w fun e w' => e = .returned (.bool (decide (1 ≤ v ∧ v ≤ 32))) ∧ w' = w := by
  by_cases h1 : 1 ≤ v
  · by_cases h2 : v ≤ 32
    · rw [decide_eq_true (⟨h1, h2⟩ : 1 ≤ v ∧ v ≤ 32)]
      go_enter Try.func29, Try.ntmps29
      go_wp2_with fail
      go_ret
      exact ⟨rfl, rfl⟩
    · rw [decide_eq_false (fun h : 1 ≤ v ∧ v ≤ 32 => h2 h.2)]
      go_enter Try.func29, Try.ntmps29
      go_wp2_with fail
      go_ret
      exact ⟨rfl, rfl⟩
  · rw [decide_eq_false (fun h : 1 ≤ v ∧ v ≤ 32 => h1 h.1)]
    go_enter Try.func29, Try.ntmps29
    go_wp2_with fail
    go_ret
    exact ⟨rfl, rfl⟩
theorem two_wrap {k : Nat} (h : k < 32) : IntKind.u64.wrap (2 * (2 : Int) ^ k) = (2 : Int) ^ (k + 1) := by
  have h1 : 2 ^ k < 4294967296 := by
    rw [show 4294967296 = 2 ^ 32 by decide]
    exact Nat.pow_lt_pow_right (by omega) h
  have hp : (2 : Int) ^ k = ((2 ^ k : Nat) : Int) := by simp
  rw [Int.pow_succ, hp]
  generalize 2 ^ k = x at *
  rw [IntWalk.u64_in _ (by omega)]
  omega
set_option maxHeartbeats 4000000 in
set_option maxRecDepth 100000 in
theorem rBit_c (v : Int) (w : World) :
    Calls Try.prog 16 #[.int .i64 v] w fun e w' => e = .returned (.int .u64 (bitN v : Int)) ∧ w' = w := by
  have HF := Lib.hid (rFine_c v)
  by_cases h : 1 ≤ v ∧ v ≤ 32
  rotate_left
  · rw [bitN_no h]
    rw [decide_eq_false h] at HF
    go_enter Try.func16, Try.ntmps16
    go_wp2_with (first | ((with_reducible refine (HF.out _).mono ?_); rintro e w1 ⟨rfl, rfl⟩))
    go_ret
    exact ⟨rfl, rfl⟩
  rw [decide_eq_true h] at HF
  obtain ⟨m, hm, rfl⟩ : ∃ m : Nat, m < 32 ∧ v = (m : Int) + 1 := ⟨(v - 1).toNat, by omega, by omega⟩
  rw [bitN_at hm]
  clear h
  go_enter Try.func16, Try.ntmps16
  go_wp2_with (first | ((with_reducible refine (HF.out _).mono ?_); rintro e w1 ⟨rfl, rfl⟩))
  go_loopw [3, 4] (fun x i wr => ∃ k : Nat, k ≤ m ∧ x = .int .u64 ((2 : Int) ^ k) ∧ i = .int .i64 ((k : Int) + 1) ∧ wr = w1) (fun _ i _ => m + 1 - (intOf i).toNat)
  case atStart => exact ⟨0, by omega, rfl, rfl, rfl⟩
  case round =>
    obtain ⟨k, hk, rfl, rfl, rfl⟩ := hrel
    by_cases hlt : k < m
    · have hltI : (k : Int) + 1 < (m : Int) + 1 := by omega
      have hw := two_wrap (show k < 32 by omega)
      go_wp2_with fail
      exact ⟨⟨k + 1, by omega, rfl, by go_num, trivial⟩, by simp [intOf]; omega⟩
    · obtain rfl : k = m := by omega
      have hn : ¬ (k : Int) + 1 < (k : Int) + 1 := by omega
      go_wp2_with fail
      go_ret
      exact ⟨by simp, rfl⟩
set_option maxHeartbeats 4000000 in
set_option maxRecDepth 100000 in
theorem rHas_c (n : Int) (B : Nat) (A : Option Addr) (c : Nat) (L : Al) (r v : Int) (w : World) (H : RL w B A c L) (hl : L.length ≤ 1000) :
    Calls Try.prog 32 #[.agg #[.int .i64 n, .slice A L.length c], .int .i64 r, .int .i64 v] w fun e w' => e = .returned (.bool (hasL L r v)) ∧ Below w.heap.size w w' := by
  have H1 : Hid (RL (w.alloc (.cells #[.int .i64 n, .slice A L.length c] 35)) B A c L) := H.below ((Below.refl _ _).alloc (Nat.le_refl _) _)
  obtain ⟨N, hN⟩ : ∃ N, N = L.length := ⟨_, rfl⟩
  have HN := Lib.hid hN
  rw [← hN] at hl ⊢
  clear hN H
  go_enter Try.func32, Try.ntmps32
  go_wp2_with fail
  go_loopw [7] (fun i wr => ∃ k : Nat, k ≤ N ∧ i = .int .i64 (k : Int) ∧ Hid (∀ j x, j < k → L[j]? = some x → x ≠ (r, v)) ∧ wr = w.alloc (.cells #[.int .i64 n, .slice A N c] 35)) (fun i _ => N - (intOf i).toNat)
  case atStart => exact ⟨0, by omega, rfl, Lib.hid (fun j x hj => by omega), rfl⟩
  case round =>
    obtain ⟨k, hk, rfl, hno, rfl⟩ := hrel
    by_cases hlt : k < N
    · have hltI : (k : Int) < (N : Int) := by omega
      have hk0 : (0 : Int) ≤ (k : Int) := by omega
      obtain ⟨b, x1, x2, hA, _, _, hx, c0, c1⟩ := H1.out.cells (i := k) (by rw [← HN.out]; exact hlt)
      rw [← HN.out] at c0 c1
      subst hA
      have HX := Lib.hid hx
      clear hx
      by_cases e1 : x1 = r
      · subst e1
        by_cases e2 : x2 = v
        · subst e2
          go_wp2_with fail
          go_ret
          refine ⟨?_, by (focus ((repeat' (first | (with_reducible exact Below.refl _ _) | (with_reducible assumption) | (with_reducible refine Below.alloc ?_ ?_ _) | (with_reducible refine Below.setCell ?_ ?_ _) | (with_reducible refine Below.row ?_ ?_ _) | (with_reducible refine Below.drew ?_) | (with_reducible refine below_drewN ?_ _) | (focus (first | (simp; done) | omega | (simp; omega))))); done))⟩
          have : hasL L x1 x2 = true := by unfold hasL; rw [decide_eq_true_iff]; exact List.mem_of_getElem? HX.out
          rw [this]; rfl
        · go_wp2_with fail
          exact ⟨⟨k + 1, by omega, by go_num, Lib.hid (fun j x hj hx => by
            by_cases e : j = k
            · subst e; rw [HX.out] at hx; injection hx with hx; subst hx; intro e; exact e2 (Prod.mk.inj e).2
            · exact hno.out j x (by omega) hx), trivial⟩, by simp [intOf]; omega⟩
      · go_wp2_with fail
        exact ⟨⟨k + 1, by omega, by go_num, Lib.hid (fun j x hj hx => by
          by_cases e : j = k
          · subst e; rw [HX.out] at hx; injection hx with hx; subst hx; intro e; exact e1 (Prod.mk.inj e).1
          · exact hno.out j x (by omega) hx), trivial⟩, by simp [intOf]; omega⟩
    · obtain rfl : k = N := by omega
      have hltI : ¬ (k : Int) < (k : Int) := by omega
      go_wp2_with fail
      go_ret
      refine ⟨?_, by (focus ((repeat' (first | (with_reducible exact Below.refl _ _) | (with_reducible assumption) | (with_reducible refine Below.alloc ?_ ?_ _) | (with_reducible refine Below.setCell ?_ ?_ _) | (with_reducible refine Below.row ?_ ?_ _) | (with_reducible refine Below.drew ?_) | (with_reducible refine below_drewN ?_ _) | (focus (first | (simp; done) | omega | (simp; omega))))); done))⟩
      have : hasL L r v = false := by
        unfold hasL; rw [decide_eq_false_iff_not]
        intro hm
        obtain ⟨j, hj⟩ := List.getElem?_of_mem hm
        exact hno.out j _ (by have := (List.getElem?_eq_some_iff.1 hj).1; have := HN.out; omega) hj rfl
      rw [this]; rfl
end Go.Proofs.Ythbocddkomhpoaa
