/- order.Sorted: at any orders, nil too. -/
import Derived.Test.YtpibkjldmmecpaaOrP
import Derived.Test.YtpibkjldmmecpaaSrD
namespace Go.Proofs.Ytpibkjldmmecpaa
open Go.RowKit Go.Sort Go.Lib Go.Shelf

/-- Orders as cells, one behind the other. -/
def ol (L : List Od) : List Value := L.flatMap encO
theorem ol_len (L : List Od) : (ol L).length = L.length * 6 := by
  induction L with
  | nil => rfl
  | cons x l ih => rw [ol, List.flatMap_cons, List.length_append, ← ol, ih, List.length_cons]; show 6 + _ = _; omega
theorem ol_get : ∀ (L : List Od) (i c : Nat), i < L.length → c < 6 → (ol L)[i * 6 + c]? = (encO L[i]!)[c]?
  | [], i, c, hi, _ => by simp at hi
  | x :: l, 0, c, _, hc => by
    rw [ol, List.flatMap_cons, List.getElem?_append_left (by show _ < 6; omega), Nat.zero_mul, Nat.zero_add]; rfl
  | x :: l, i + 1, c, hi, hc => by
    rw [ol, List.flatMap_cons, List.getElem?_append_right (by show 6 ≤ _; omega), ← ol]
    have : (i + 1) * 6 + c - (encO x).length = i * 6 + c := by show _ - 6 = _; omega
    rw [this, ol_get l i c (by simpa using hi) hc]
    rfl
theorem ol_one (L : List Od) : ∀ u ∈ ol L, u.oneCell' = true := by
  intro u hu
  obtain ⟨x, _, hx⟩ := List.mem_flatMap.1 hu
  exact encD_one (x, 0) u hx
theorem at_cell {w : World} {x : Od} {b o c : Nat} {u : Value} (h : x.at w b o) (hc : (encO x)[c]? = some u) : w.cell? ⟨b, o + c, none⟩ = some u := by
  obtain ⟨h0, h1, h2, h3, h4, h5⟩ := h
  match c, hc with
  | 0, hc => rw [← hc]; exact h0
  | 1, hc => rw [← hc]; exact h1
  | 2, hc => rw [← hc]; exact h2
  | 3, hc => rw [← hc]; exact h3
  | 4, hc => rw [← hc]; exact h4
  | 5, hc => rw [← hc]; exact h5
theorem at_of {w : World} {x : Od} {b o : Nat} (h : ∀ c u, (encO x)[c]? = some u → w.cell? ⟨b, o + c, none⟩ = some u) : x.at w b o :=
  ⟨h 0 _ rfl, h 1 _ rfl, h 2 _ rfl, h 3 _ rfl, h 4 _ rfl, h 5 _ rfl⟩
theorem enc_some (x : Od) (c : Nat) (hc : c < 6) : (encO x)[c]? = some (encO x)[c]! := by
  rw [List.getElem?_eq_getElem (by show _ < 6; exact hc), getElem!_pos (encO x) c (by show _ < 6; exact hc)]
theorem ods_cells {w : World} {b off len : Nat} {L : List Od} (hl : L.length = len) (h : ∀ i, i < len → (L[i]!).at w b (off + i * 6)) : ∀ j u, (ol L)[j]? = some u → w.cell? ⟨b, off + j, none⟩ = some u := by
  intro j u hu
  have hj := (List.getElem?_eq_some_iff.1 hu).1
  rw [ol_len] at hj
  have e : j = j / 6 * 6 + j % 6 := by omega
  rw [e, ol_get L (j / 6) (j % 6) (by omega) (by omega)] at hu
  have := at_cell (h (j / 6) (by omega)) hu
  rw [show off + j / 6 * 6 + j % 6 = off + j by omega] at this
  exact this
theorem zip_fst (L : List Od) (i : Nat) (hi : i < L.length) : (L.zipIdx.toArray[i]!) = (L[i]!, i) := by
  rw [getElem!_pos L.zipIdx.toArray i (by simpa using hi), getElem!_pos L i hi]
  simp
/-- A row of the call's own, as the sort sees it. -/
theorem own_holds {w : World} {base n : Nat} {v : Value} {L : List Od} (h : w.ownsRow base 29 6 v n (ol L)) (hv : v ≠ .slice none 0 0) :
    L.length = n ∧ ∃ k cap, v = .slice (some ⟨k, 0, none⟩) n cap ∧ n ≤ cap ∧ base ≤ k ∧ k < w.heap.size ∧ HoldsK encD 6 w k 0 L.zipIdx.toArray := by
  obtain ⟨h1, h2⟩ := h
  rw [ol_len] at h1
  have hl : L.length = n := by omega
  rcases h2 with ⟨h0, _⟩ | ⟨k, cap, cur, hv', hb, hk, hc, hm, hs, ht⟩
  · exact absurd h0 hv
  · refine ⟨hl, k, cap, hv', hc, hb, blk_lt hk, fun j hj => ?_⟩
    rw [size_flatK] at hj
    have hz : L.zipIdx.toArray.size = n := by simp [hl]
    rw [hz] at hj
    refine ⟨?_, frozen_of_row _ _ _ _ _ hk⟩
    rw [get_flatK _ _ _ _ (by rw [hz]; exact hj), zip_fst L (j / 6) (by omega)]
    have hx : (ol L)[j]? = some (encO L[j / 6]!)[j % 6]! := by
      have e : j = j / 6 * 6 + j % 6 := by omega
      conv => lhs; rw [e]
      rw [ol_get L (j / 6) (j % 6) (by omega) (by omega)]
      exact enc_some _ _ (by omega)
    rw [Nat.zero_add, cell_of_row _ _ _ _ _ _ hk]
    rw [← ht, List.getElem?_take, if_pos (by omega), Array.getElem?_toList] at hx
    exact hx
/-- What the sort leaves. -/
theorem sw_gw {w0 w : World} {blk : Nat} {d : Array Dd} {B : Nat} (S : SW6 w0 blk d w) (hB : B ≤ blk) (hs : B ≤ w0.heap.size) : Below B w0 w ∧ w0.drawn ≤ w.drawn := by
  obtain ⟨n, os, rfl⟩ := S
  refine ⟨⟨rfl, rfl, rfl, ?_, fun j hj => ?_⟩, Nat.le_add_right _ _⟩
  · unfold sortWorldK; rw [size_grow, size_putRowK]; exact Nat.le_add_right _ _
  · unfold sortWorldK
    rw [heap_grow_old _ _ (by rw [size_putRowK]; show j < w0.heap.size; omega)]
    unfold putRowK putRow mapBlock
    show (w0.heap.modify blk _)[j]? = _
    rw [Array.getElem?_modify, if_neg (by omega)]
theorem ods_of_sort {w0 w : World} {blk n : Nat} {d0 d : Array Dd} {L : List Od} (S : SW6 w0 blk d w) (R : Rw6 w0 blk d0) (hs : d.size = d0.size) (hn : d.size = n) (h9 : n ≤ 9223372036854775807) (hL : d.toList.map Prod.fst = L) (hok : ∀ x ∈ L, Od.ok w x) : Ods w (some ⟨blk, 0, none⟩) n L := by
  have hl : L.length = n := by rw [← hL]; simp [hn]
  refine ⟨hl, h9, hok, .inr ⟨blk, 0, rfl, S.lt R.hblk, fun i hi => at_of fun c u hu => ?_⟩⟩
  have h := HoldsK.cells (S.holds R.hblk R.hH hs) R.hk (show i < d.size by omega) c u (by
    have e : L[i]! = (d[i]!).1 := by
      rw [getElem!_pos L i (by omega), getElem!_pos d i (by omega)]
      simp [← hL]
    rw [← hu, e]; rfl)
  rw [addr_add] at h
  exact h
theorem info_od : (Try.prog.info? 29).map (fun i => (i.zero, i.size, i.bytes)) = some (some (.agg #[.int .u64 0, .int .i64 0, .int .i64 0, .int .i64 0, .int .i64 0, .int .u64 0]), 6, 48) := by kernel_rfl
set_option maxHeartbeats 4000000 in
set_option maxRecDepth 100000 in
theorem insNil_c (c : Nat) (f : Value) (w : World) : Calls Try.prog 29 #[.slice none 0 c, .int .i64 0, .int .i64 0, f] w fun e w' => e = .returned (.tuple #[]) ∧ w = w' := by
  go_enter Try.func29, Try.ntmps29
  go_wp2
  go_loop [8] (fun s => s = .int .i64 1) (fun _ => 0)
  case atStart => rfl
  case round =>
    subst hrel
    go_wp2
    go_end0
    exact ⟨rfl, rfl⟩
set_option maxHeartbeats 4000000 in
set_option maxRecDepth 100000 in
theorem stableNil_c (c : Nat) (f : Value) (w : World) : Calls Try.prog 22 #[.slice none 0 c, .int .i64 0, f] w fun e w' => e = .returned (.tuple #[]) ∧ w = w' := by
  have HI := Lib.hid (insNil_c c f)
  go_enter Try.func22, Try.ntmps22
  go_wp2
  go_loop [7, 8] (fun s t => s = .int .i64 0 ∧ t = .int .i64 20) (fun _ _ => 0)
  case atStart => exact ⟨rfl, rfl⟩
  case round =>
    obtain ⟨rfl, rfl⟩ := hrel
    go_wp2_with ((with_reducible refine (HI.out _).mono ?_); rintro e w' ⟨rfl, rfl⟩)
    go_loop [6] (fun s => s = .int .i64 20) (fun _ => 0)
    case atStart => rfl
    case round =>
      subst hrel
      go_wp2
      go_end0
      exact ⟨rfl, rfl⟩
set_option maxHeartbeats 4000000 in
set_option maxRecDepth 100000 in
theorem sortNil_c (c : Nat) (f : Value) (w : World) : Calls Try.prog 15 #[.slice none 0 c, f] w fun e w' => e = .returned (.tuple #[]) ∧ w = w' := by
  have HI := Lib.hid (stableNil_c c f)
  go_enter Try.func15, Try.ntmps15
  go_wp2_with ((with_reducible refine (HI.out _).mono ?_); rintro e w' ⟨rfl, rfl⟩)
  go_end0
  exact ⟨rfl, rfl⟩
/-- What order.Sorted tells. -/
def SortedIs (w : World) (L : List Od) (n : Nat) (e : Ending) (w' : World) : Prop := ∃ A c, e = .returned (.slice A n c) ∧ n ≤ c ∧ Ods w' A n (sortO L) ∧ Below w.heap.size w w'
end Go.Proofs.Ytpibkjldmmecpaa
