/-
  fault.Layers of a chain: its layers, the outermost first.
-/
import Derived.Test.YtpinenfclpapjaaDoorFtD
namespace Go.Proofs.YtpinenfclpapjaaDoor
open Go.RowKit Go.Extern.Stop Go.Stop Go.Extern
set_option linter.unusedVariables false

theorem ft_info_int : (Tryd.prog.info? 3).map (fun i => (i.zero, i.size, i.bytes)) = some (some (.int .i64 0), 1, 8) := by kernel_rfl
theorem ft_info_parts {ty : TypeId} {z : Value} {n s : Nat} (h : (Tryd.prog.info? ty).map (fun i => (i.zero, i.size, i.bytes)) = some (some z, n, s)) : ∃ i, Tryd.prog.info? ty = some i ∧ i.zero = some z ∧ i.size = n ∧ i.bytes = s := by
  obtain ⟨i, hi, he⟩ := Option.map_eq_some_iff.1 h
  injection he with h1 h2
  injection h2 with h2 h3
  exact ⟨i, hi, h1, h2, h3⟩
theorem ft_cell_new (w : World) (v : Value) (t : TypeId) : ∀ (j : Nat) (u : Value), [v][j]? = some u → (w.alloc (.cells #[v] t)).cell? ((⟨w.heap.size, 0, none⟩ : Addr).add j) = some u := by
  intro j u hu
  rcases j with _ | j
  · injection hu with hu; subst hu
    have hr : (w.alloc (.cells #[v] t)).heap[w.heap.size]? = some (.cells #[v] t (0, 0)) := heap_alloc_new w _
    rw [addr_add, cell_of_row _ _ _ _ _ _ hr]; rfl
  · simp at hu
theorem ft_own_keep {w w' : World} {base n : Nat} {v : Value} {xs : List Value} {e : TypeId} {size : Nat} (h : w.ownsRow base e size v n xs) (hb : Below w.heap.size w w') : w'.ownsRow base e size v n xs := by
  obtain ⟨h1, h2⟩ := h
  refine ⟨h1, ?_⟩
  rcases h2 with hn | ⟨k, cap, cur, rfl, hb', hk, rest⟩
  · exact .inl hn
  · exact .inr ⟨k, cap, cur, rfl, hb', (hb.block k (blk_lt hk)).trans hk, rest⟩
/-- Numbers as cells. -/
def lyV (ls : List Int) : List Value := ls.map fun n => Value.int .i64 n
def Lyd (w : World) (ls : List Int) (e : Ending) (w' : World) : Prop := ∃ v, e = .returned v ∧ w'.ownsRow w.heap.size 3 1 v ls.length (lyV ls) ∧ Below w.heap.size w w'
/-- What is left of the chain. -/
def Rest (w : World) (c : Int) (ms : List Int) (f ok : Value) : Prop := (ms = [] ∧ f = .pointer none ∧ ok = .bool false) ∨ ∃ d, Chn w c ms d ∧ f = fpt d ∧ ok = .bool true
theorem Rest.below {w w' : World} {c : Int} {ms : List Int} {f ok : Value} (h : Rest w c ms f ok) (hb : Below w.heap.size w w') : Rest w' c ms f ok := by
  rcases h with h | ⟨d, h, h2⟩
  · exact .inl h
  · exact .inr ⟨d, h.below hb, h2⟩

theorem layers_nil (w : World) : Calls Tryd.prog 9 #[.nilIface] w fun e w' => e = .returned (.slice none 0 0) ∧ Below w.heap.size w w' := by
  go_enter Tryd.func9, Tryd.ntmps9
  go_wp2_with (first | (go_at_call 16; refine (first_nil _).mono ?_; rintro e w1 ⟨rfl, hb1⟩))
  go_loopg [3, 4, 5] 1 (fun _ l f ok wr => l = .slice none 0 0 ∧ f = .pointer none ∧ ok = .bool false ∧ Below w.heap.size w wr)
  case atStart => exact ⟨rfl, rfl, rfl, hb1⟩
  case round =>
    obtain ⟨rfl, rfl, rfl, bel⟩ := hrel
    go_wp2
    go_ret
    exact ⟨rfl, bel⟩

set_option maxHeartbeats 4000000 in
set_option maxRecDepth 100000 in
theorem layers_c (c : Int) (hc' : (c != 0) = true) (ls : List Int) (hls : ls.length ≤ 1000) (b : Nat) (w : World) (hg : w.cell? ⟨0, 0, none⟩ = some (.iface 72 (.agg #[.pointer (some ⟨5, 24, none⟩)]))) (h : Chn w c ls b) :
    Calls Tryd.prog 9 #[fvl b] w (Lyd w ls) := by
  obtain ⟨j0, hj0, jz0, jz1, jz2⟩ := ft_info_parts ft_info_int
  have HL := Lib.hid hls
  clear hls
  go_enter Tryd.func9, Tryd.ntmps9
  go_wp2_with (first | (go_at_call 16; refine (first_hit _ _ hg).mono ?_; rintro e w1 ⟨rfl, hb1⟩))
  go_loopg [3, 4, 5] (ls.length + 1) (fun k l f ok wr => ∃ (ds ms : List Int), ls = ds ++ ms ∧ ms.length + 1 = k ∧ Rest w c ms f ok ∧ wr.ownsRow w.heap.size 3 1 l ds.length (lyV ds) ∧ Below w.heap.size w wr)
  case atStart => exact ⟨[], ls, rfl, rfl, .inr ⟨b, h, rfl, rfl⟩, World.ownsRow_nil _ _ _ _, hb1⟩
  case round =>
    obtain ⟨ds, ms, hsp, hk, hrest, hown, bel⟩ := hrel
    have HK := Lib.hid hk
    have HS := Lib.hid hsp
    clear hk hsp
    have hsz := bel.size
    have hgr : wr.cell? ⟨0, 0, none⟩ = some (.iface 72 (.agg #[.pointer (some ⟨5, 24, none⟩)])) := (bel.cell (p := ⟨0, 0, none⟩) (World.block_lt_of_cell? w _ hg)).trans hg
    have HO := Lib.hid hown
    clear hown
    rcases hrest with ⟨rfl, rfl, rfl⟩ | ⟨d, hch, rfl, rfl⟩
    · go_wp2
      go_ret
      refine ⟨_, rfl, ?_, bel⟩
      rw [HS.out, List.append_nil]
      exact HO.out
    have hcm : ds.length + ms.length = ls.length := by rw [HS.out]; simp
    have HCm : Hid (ds.length + ms.length ≤ 1000) := by show _ ≤ _; rw [hcm]; exact HL.out
    clear hcm
    rcases hch.split with ⟨l, hms, hf0⟩ | ⟨l, ns, d', hms, hf0, hch'⟩
    · have HM := Lib.hid hms
      have hf := hf0.below bel
      have h0 := hf.c0
      clear hms
      go_wp2_with (first | (go_at_call 17; refine (made_in d l c hc' _ hf).mono ?_; rintro e w' ⟨rfl, rfl⟩) | (at_builtin; refine wpList_append_own_at _ rfl _ _ 22 rfl w.heap.size 3 j0 (.int .i64 0) 1 8 Tryd.underlying22 hj0 jz0 jz1 jz2 rfl (by decide) _ _ _ rfl (ft_own_keep HO.out ((Below.refl _ wr).alloc (Nat.le_refl _) _)) ⟨wr.heap.size, 0, none⟩ 1 1 [.int .i64 l] rfl ?c0 ?c1 ?c2 ?c3 ?c4 ?c5 ?_))
      case c0 => rfl
      case c1 => exact ft_cell_new _ _ _
      case c2 => intro u hu; rw [List.mem_singleton] at hu; subst hu; rfl
      case c3 => unfold maxLen; have := HCm.out; omega
      case c4 => have := HCm.out; omega
      case c5 => simp; omega
      intro v5 w2 hown1 hg1 _ hat1
      have HB2 : Below w.heap.size w w2 := Below.grown (bel.trans (((Below.refl _ wr).alloc (Nat.le_refl _) _).mono hsz)) hg1 (by simp; omega) (fun i hi => (HO.out.lt i hi).1)
      have HO2 := Lib.hid hown1
      have hsz2 := HB2.size
      clear hown1 hg1 hat1
      have hgr2 : w2.cell? ⟨0, 0, none⟩ = some (.iface 72 (.agg #[.pointer (some ⟨5, 24, none⟩)])) := (HB2.cell (p := ⟨0, 0, none⟩) (World.block_lt_of_cell? w _ hg)).trans hg
      have hf2 := hf0.below HB2
      have h2 := hf2.c2
      go_wp2_with (first | (go_at_call 16; refine (first_nil _).mono ?_; rintro e w3 ⟨rfl, hb3⟩))
      go_roundg 1
      case measure => rw [← HK.out, HM.out]; simp
      case rel => exact ⟨ds ++ [l], [], by rw [HS.out, HM.out]; simp, rfl, .inl ⟨rfl, rfl, rfl⟩, by have := ft_own_keep HO2.out hb3; simpa [lyV] using this, HB2.trans (hb3.mono hsz2)⟩
    · have HM := Lib.hid hms
      have hf := hf0.below bel
      have h0 := hf.c0
      clear hms
      go_wp2_with (first | (go_at_call 17; refine (made_out d d' l _ hf).mono ?_; rintro e w' ⟨rfl, rfl⟩) | (at_builtin; refine wpList_append_own_at _ rfl _ _ 22 rfl w.heap.size 3 j0 (.int .i64 0) 1 8 Tryd.underlying22 hj0 jz0 jz1 jz2 rfl (by decide) _ _ _ rfl (ft_own_keep HO.out ((Below.refl _ wr).alloc (Nat.le_refl _) _)) ⟨wr.heap.size, 0, none⟩ 1 1 [.int .i64 l] rfl ?c0 ?c1 ?c2 ?c3 ?c4 ?c5 ?_))
      case c0 => rfl
      case c1 => exact ft_cell_new _ _ _
      case c2 => intro u hu; rw [List.mem_singleton] at hu; subst hu; rfl
      case c3 => unfold maxLen; have := HCm.out; omega
      case c4 => have := HCm.out; omega
      case c5 => simp; omega
      intro v5 w2 hown1 hg1 _ hat1
      have HB2 : Below w.heap.size w w2 := Below.grown (bel.trans (((Below.refl _ wr).alloc (Nat.le_refl _) _).mono hsz)) hg1 (by simp; omega) (fun i hi => (HO.out.lt i hi).1)
      have HO2 := Lib.hid hown1
      have hsz2 := HB2.size
      clear hown1 hg1 hat1
      have hgr2 : w2.cell? ⟨0, 0, none⟩ = some (.iface 72 (.agg #[.pointer (some ⟨5, 24, none⟩)])) := (HB2.cell (p := ⟨0, 0, none⟩) (World.block_lt_of_cell? w _ hg)).trans hg
      have hf2 := hf0.below HB2
      have h2 := hf2.c2
      go_wp2_with (first | (go_at_call 16; refine (first_hit _ _ hgr2).mono ?_; rintro e w3 ⟨rfl, hb3⟩))
      go_roundg (ns.length + 1)
      case measure => rw [← HK.out, HM.out]; simp
      case rel => exact ⟨ds ++ [l], ns, by rw [HS.out, HM.out]; simp, rfl, .inr ⟨d', hch', rfl, rfl⟩, by have := ft_own_keep HO2.out hb3; simpa [lyV] using this, HB2.trans (hb3.mono hsz2)⟩
end Go.Proofs.YtpinenfclpapjaaDoor
