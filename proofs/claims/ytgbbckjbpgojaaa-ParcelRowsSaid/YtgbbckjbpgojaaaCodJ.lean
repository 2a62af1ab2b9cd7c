/- codec's writer: a text; its bytes. -/
import Derived.Test.YtgbbckjbpgojaaaCodI
namespace Go.Proofs.Ytgbbckjbpgojaaa
open Go.RowKit

theorem bytes_slb (w : World) (s : ByteArray) : SlB (Lib.bytesWorld w 5 s) (some ⟨w.heap.size, 0, none⟩) s.size s.data.toList := by
  refine ⟨rfl, .inr ⟨w.heap.size, 0, rfl, by rw [Lib.bytesWorld_size]; omega, fun i hi => ?_⟩⟩
  rw [Nat.zero_add, Lib.bytesWorld_cell w 5 s i hi]; rfl
theorem bytes_below (w : World) (s : ByteArray) : Below w.heap.size w (Lib.bytesWorld w 5 s) :=
  ⟨by simp [Lib.bytesWorld, World.freeze, World.alloc, World.drew, -World.alloc_eq, -World.drew_eq], by simp [Lib.bytesWorld, World.freeze, World.alloc, World.drew, -World.alloc_eq, -World.drew_eq],
   by simp [Lib.bytesWorld, World.freeze, World.alloc, World.drew, -World.alloc_eq, -World.drew_eq], by rw [Lib.bytesWorld_size]; omega, fun k hk => Lib.bytesWorld_at_old w _ s k hk⟩

set_option maxHeartbeats 2000000 in
set_option maxRecDepth 100000 in
theorem Clone_c (k n cap : Nat) (l : List UInt8) (w : World) (hn : 0 < n) (hb : n ≤ 1000000000) (h : SlB w (some ⟨k, 0, none⟩) n l) :
    Calls Try.prog 14 #[.slice (some ⟨k, 0, none⟩) n cap] w fun e w' => ∃ q c, e = .returned (.slice (some ⟨q, 0, none⟩) n c) ∧ Hid (w'.ownsRow w.heap.size 5 1 (.slice (some ⟨q, 0, none⟩) n c) n (l.map byt) ∧ Below w.heap.size w w') := by
  obtain ⟨i0, hi0, hz0, hz1, hz2⟩ := info_parts info_u8
  have hl := h.1
  rcases h.2 with h0 | ⟨b, off, hA, hlt, hc⟩
  · omega
  injection hA with hA
  injection hA with h1 h2 _
  subst h1; subst h2
  have Hnews := Lib.hid (SlB.news hl hc)
  have Hl := Lib.hid hl
  have hown : ∀ W : World, w.heap.size ≤ W.heap.size → (W.alloc (.cells #[] 5)).ownsRow w.heap.size 5 1 (.slice (some ⟨W.heap.size, 0, none⟩) 0 0) 0 [] := fun W hW =>
    World.ownsRow_made W #[] 0 hW (by unfold maxLen; omega) (by simp)
  have HO := Lib.hid (hown w (Nat.le_refl _))
  have hnews2 : ∀ (j : Nat) (u : Value), (l.map byt)[j]? = some u → (w.alloc (.cells #[] 5)).cell? ((⟨k, 0, none⟩ : Addr).add j) = some u := fun j u hu => by
    rw [← Hnews.out j u hu, addr_add]
    exact World.cell?_of_block (w := w) (Below.heap_alloc w _ k hlt)
  have Hnews2 := Lib.hid hnews2
  have hnil := fun W => Lib.run_eql_slice_nil (P := Try.prog) W 22 5 (some ⟨k, 0, none⟩) n cap 0 0 Try.underlying22
  clear hown hnews2 hc hl h
  go_enter Try.func14, Try.ntmps14
  go_wp2_with (at_builtin; refine wpList_append_lies _ rfl _ _ 22 rfl w.heap.size 5 i0 (.int .u8 0) 1 1 Try.underlying22 hi0 hz0 hz1 hz2 rfl (by decide) _ _ _ rfl HO.out ⟨k, 0, none⟩ n cap (l.map byt) rfl ?c0 Hnews2.out (byt_one l) hn ?c1 ?c2 ?c3 (w.heap.size + 1) ?c4 ?_)
  case c0 => exact Hl.out
  case c1 => unfold maxLen; omega
  case c2 => omega
  intro q c w1 hown hgr hat hlt1
  have hfin : Hid (w1.ownsRow w.heap.size 5 1 (.slice (some ⟨q, 0, none⟩) n c) n (l.map byt) ∧ Below w.heap.size w w1) := by
    refine ⟨by simpa using hown, Below.grown ((Below.refl _ _).alloc (Nat.le_refl _) _) hgr (by simp) (fun j hj => ?_)⟩
    simp [Value.ownBlock] at hj; omega
  clear hown hgr hat HO Hnews Hnews2
  go_wp2_with fail
  go_ret
  exact ⟨q, c, by simp, hfin⟩

set_option maxHeartbeats 4000000 in
set_option maxRecDepth 100000 in
theorem Bytes_some (g t k cap : Nat) (bs : List UInt8) (w : World) (hg : w.heap[g]? = some (.cells #[.pointer (some ⟨t, 0, none⟩), .int .i64 (bs.length : Int)] 58 (0, 0)))
    (ht : w.heap[t]? = some (.cells #[.slice (some ⟨k, 0, none⟩) bs.length cap] 76 (0, 0))) (hcap : bs.length ≤ cap) (hn : 0 < bs.length) (hb : bs.length ≤ 1000000000) (hs : SlB w (some ⟨k, 0, none⟩) bs.length bs) :
    Calls Try.prog 21 #[.pointer (some ⟨g, 0, none⟩)] w fun e w' => ∃ q c, e = .returned (.slice (some ⟨q, 0, none⟩) bs.length c) ∧ Hid (w'.ownsRow w.heap.size 5 1 (.slice (some ⟨q, 0, none⟩) bs.length c) bs.length (bs.map byt) ∧ Below w.heap.size w w') := by
  have g0 : w.cell? ⟨g, 0, none⟩ = some (.pointer (some ⟨t, 0, none⟩)) := by rw [cell_of_row _ _ _ _ _ _ hg]; rfl
  have g1 : w.cell? ⟨g, 1, none⟩ = some (.int .i64 (bs.length : Int)) := by rw [cell_of_row _ _ _ _ _ _ hg]; rfl
  have t0 : w.cell? ⟨t, 0, none⟩ = some (.slice (some ⟨k, 0, none⟩) bs.length cap) := by rw [cell_of_row _ _ _ _ _ _ ht]; rfl
  have HC := Lib.hid (Clone_c k bs.length cap bs w.drew hn hb hs)
  have hcI : (bs.length : Int) ≤ (cap : Int) := by omega
  clear hg ht hs hb
  go_enter Try.func21, Try.ntmps21
  go_wp2_with fail
  go_region_with ((with_reducible refine HC.out.mono ?_); rintro e w1 ⟨q, c, rfl, hq⟩)
  all_goals
    go_wp2_with fail
    go_ret
    exact ⟨q, c, rfl, hq.out.1, (Below.refl _ _).drew.trans hq.out.2⟩

/-- A writer's bytes: nil, or a row of the call's own. -/
theorem Bytes_c (g : Nat) (S : Nat → Prop) (bs : List UInt8) (w : World) (h : WS w g S bs) (hb : bs.length ≤ 1000000000) :
    Calls Try.prog 21 #[.pointer (some ⟨g, 0, none⟩)] w fun e w' => ∃ A c, e = .returned (.slice A bs.length c) ∧ Hid (w'.ownsRow w.heap.size 5 1 (.slice A bs.length c) bs.length (bs.map byt) ∧ Below w.heap.size w w') := by
  obtain ⟨_, _, hx⟩ := h
  rcases hx with ⟨rfl, hg⟩ | ⟨t, v, hpos, hg, ht, _, _, hown⟩
  · refine (Bytes_none g w hg).mono fun e w' h => ?_
    obtain ⟨rfl, rfl⟩ := h
    exact ⟨none, 0, rfl, World.ownsRow_nil _ _ _ _, Below.refl _ _⟩
  · obtain ⟨k, cap, rfl, _, _, hsl⟩ := own_slb hown hpos
    have hcap : bs.length ≤ cap := by
      rcases hown.2 with ⟨h, _⟩ | ⟨_, _, _, h, _, _, hc, _⟩
      · injection h with h; cases h
      · injection h with _ _ h3; omega
    refine (Bytes_some g t k cap bs w hg ht hcap hpos hb hsl).mono fun e w' h => ?_
    obtain ⟨q, c, he, hq⟩ := h
    exact ⟨some ⟨q, 0, none⟩, c, he, hq⟩

/-! ### A writer that is nil -/
theorem nilNat_w (A : Option Addr) (n c : Nat) (w : World) (xs : List Nat) (hx : ∀ x ∈ xs, x < 2 ^ 64) (hl : xs.length = n) (hn : n ≤ 1000000000)
    (hA : n = 0 ∨ ∃ b off, A = some ⟨b, off, none⟩ ∧ b < w.heap.size ∧ ∀ i, i < n → w.cell? ⟨b, off + i, none⟩ = some (.int .u64 ((xs.getD i 0 : Nat) : Int))) :
    Calls Try.prog 19 #[.pointer none, .slice A n c] w fun e w' => e = .returned (.tuple #[]) ∧ Below w.heap.size w w' := by
  have hnI : (n : Int) ≤ 9223372036854775807 := by omega
  have Hl := Lib.hid hl; clear hl
  have Hx := Lib.hid hx; clear hx
  have HA := Lib.hid hA; clear hA
  go_enter Try.func19, Try.ntmps19
  go_wp2_with fail
  go_loopw [8] (fun i wr => ∃ k : Nat, k ≤ n ∧ i = .int .i64 (k : Int) ∧ Below w.heap.size w wr) (fun i _ => n - (intOf i).toNat)
  case atStart => exact ⟨0, by omega, rfl, Below.refl _ _⟩
  case round =>
    obtain ⟨k, hk, rfl, hB⟩ := hrel
    have HB := Lib.hid hB
    by_cases hlt : k < n
    · have hltI : (k : Int) < (n : Int) := by omega
      have hk0 : (0 : Int) ≤ (k : Int) := by omega
      rcases HA.out with h0 | ⟨b, off, rfl, hb, hcells⟩
      · exfalso; omega
      have ck : wr.cell? ⟨b, off + k, none⟩ = some (.int .u64 ((xs.getD k 0 : Nat) : Int)) := (hB.cell (p := ⟨b, off + k, none⟩) hb).trans (hcells k hlt)
      have hmem : xs.getD k 0 ∈ xs := by
        rw [List.getD_eq_getElem?_getD, List.getElem?_eq_getElem (by have := Hl.out; omega)]; exact List.getElem_mem _
      have hxk := Hx.out _ hmem
      obtain ⟨x, hxx⟩ : ∃ x, x = xs.getD k 0 := ⟨_, rfl⟩
      rw [← hxx] at ck hxk
      have hGr := Lib.hid (fun w => groups_s x (by omega) w)
      clear hmem hxk hxx hB hcells hb
      go_wp2_with fail
      ((with_reducible refine (hGr.out _).mono ?_); rintro e w1 ⟨q, cap, rfl, hq⟩)
      clear hGr ck
      go_wp2_with fail
      ((with_reducible refine (nilAdd_c _ _).mono ?_); rintro e w2 ⟨rfl, rfl⟩)
      have hB1 : Below w.heap.size w w1 := HB.out.trans (hq.out.2.2.mono HB.out.size)
      clear hq HB
      go_wp2_with fail
      exact ⟨⟨k + 1, by omega, by go_num, hB1⟩, by simp [intOf]; omega⟩
    · clear hB
      go_wp2_with fail
      go_end0
      first | exact ⟨rfl, HB.out⟩ | exact HB.out
theorem nilNat1_w (x : Nat) (w : World) (hx : x < 2 ^ 64) :
    Calls Try.prog 19 #[.pointer none, .slice (some ⟨w.heap.size, 0, none⟩) 1 1] (w.alloc (.cells #[.int .u64 (x : Int)] 53)) fun e w' => e = .returned (.tuple #[]) ∧ Below w.heap.size w w' := by
  have hb : Below w.heap.size w (w.alloc (.cells #[.int .u64 (x : Int)] 53)) := (Below.refl _ _).alloc (Nat.le_refl _) _
  refine (nilNat_w (some ⟨w.heap.size, 0, none⟩) 1 1 _ [x] (by intro y hy; simp at hy; subst hy; exact hx) rfl (by omega) (.inr ⟨w.heap.size, 0, rfl, by simp, fun i hi => by
      obtain rfl : i = 0 := by omega
      rw [cell_of_row _ _ _ _ _ _ (heap_alloc_new w _)]; rfl⟩)).mono fun e w' h => ?_
  exact ⟨h.1, hb.trans (h.2.mono (by simp))⟩
end Go.Proofs.Ytgbbckjbpgojaaa
