/- A range over a function whose iterator tells more of what comes than its type: what holds of it in the world in which it comes. Every round goes on. -/
import Derived.Test.YtgbbckjbpgojaaaRows
import Derived.Below
import Derived.RangeFuncNested
import Derived.RangeFuncLeaves
namespace Go.Proofs.Ytgbbckjbpgojaaa
open Go.RowKit

/-- What the caller owes of a round: between two rounds T holds; of what comes G holds where it comes; behind the assignment M. -/
structure Rounds {α : Type} (F : Fence) (m : Nat) (P : Program) (B : Nat) (tmps : Array Value) (ps : Array Tmp) (assign body : Code) (encs : α → Array Value)
    (T : List α → World → Prop) (G : List α → α → World → Prop) (E : World → World → Prop) (M : List α → α → Act → World → Prop) : Prop where
  size : ∀ x, (encs x).size = ps.size
  put : ∀ pre X l o o', T pre X → B ≤ l → X.heap[l]? = some o → o.isCells = false → T pre (X.putObj l o')
  putM : ∀ pre x a X l o o', M pre x a X → B ≤ l → X.heap[l]? = some o → o.isCells = false → M pre x a (X.putObj l o')
  putE : ∀ X o o', X.heap[B + 1]? = some o → o.isCells = false → E X (X.putObj (B + 1) o')
  transE : ∀ X Y Z, E X Y → E Y Z → E X Z
  assign : ∀ l pre x X K, T pre X → G pre x X → (∀ a X1, KeepsFrom B X X1 → E X X1 → M pre x a X1 → K a X1) →
    assign.wpIn (F.inRound l) m P (Exit.then K (fun _ _ _ => False)) { tmps := (ps.zip (encs x)).foldl (fun t (p, v) => t.setIfInBounds p v) tmps, defers := [] } X
  body : ∀ l pre x a X, B ≤ l → (∃ r, X.heap[l]? = some (.loop r)) → M pre x a X →
    body.wpIn (F.inRound l) m P (fun e _ Y => e = .normal ∧ KeepsFrom B X Y ∧ E X Y ∧ T (pre ++ [x]) Y) a X

/-- What the iterator owes: called with yield it goes over some list of S, whatever holds between the rounds, if that abides new memory. -/
def Tells {α : Type} (F : Fence) (n : Nat) (P : Program) (gf : Nat) (lb : Array Value) (encs : α → Array Value) (G : List α → α → World → Prop) (E : World → World → Prop) (S : List α → Prop) (w : World) : Prop :=
  ∀ (l : Nat) (J : List α → World → Prop) (W : World), Below w.heap.size w W → w.heap.size + 2 ≤ W.heap.size → OwnFrom W.heap.size J →
    (∀ pre x X, J pre X → G pre x X → YieldAt F (n - 1) P l (encs x) X fun e Y => e = .returned (.bool true) ∧ J (pre ++ [x]) Y ∧ E X Y) → J [] W →
    CallsIn F n P gf (#[.func (.yield l) #[] #[]] ++ lb) W fun e Y => (∃ v, e = .returned v) ∧ ∃ xs, S xs ∧ J xs Y

theorem round_told {α : Type} {F : Fence} {m : Nat} {P : Program} {B : Nat} {tmps : Array Value} {ps : Array Tmp} {assign body : Code} {encs : α → Array Value}
    {T : List α → World → Prop} {G : List α → α → World → Prop} {E : World → World → Prop} {M : List α → α → Act → World → Prop} (H : Rounds F m P B tmps ps assign body encs T G E M)
    {fn : FuncId} (hfn : F.fn fn) {rc : Loop} (hrc : rc = { state := .ready, pending := none, fn, tmps, params := ps, assign, body, defers := B })
    (pre : List α) (x : α) (X : World) (hT : T pre X) (hG : G pre x X) (hl : X.heap[B + 1]? = some (.loop rc)) (hd : X.heap[B]? = some (.deferred (some []))) :
    YieldAt F m P (B + 1) (encs x) X fun e Y => e = .returned (.bool true) ∧ (T (pre ++ [x]) Y ∧ Y.heap[B + 1]? = some (.loop rc) ∧ Y.heap[B]? = some (.deferred (some []))) ∧ E X Y := by
  subst hrc
  refine ⟨_, _, _, _, run_yield hl (H.size x), roundIn_of_wpIn hfn (H.assign _ pre x X _ hT hG fun a X1 hk he hM => ?_)⟩
  have hl1 := hk.same _ _ (Nat.le_succ B) hl rfl
  have hd1 := hk.same _ _ (Nat.le_refl B) hd rfl
  refine ⟨_, run_beginRound hl1 rfl, ?_⟩
  have hlt := (Array.getElem?_eq_some_iff.1 hl1).1
  refine wpIn_mono (H.body _ pre x a _ (Nat.le_succ B) ⟨_, World.putObj_heap_same hlt⟩ (H.putM _ _ _ _ _ _ _ hM (Nat.le_succ B) hl1 rfl)) ?_
  rintro e a2 Y ⟨rfl, hkY, heY, hTY⟩
  have hl2 := hkY.same _ _ (Nat.le_succ B) (World.putObj_heap_same hlt) rfl
  have hd2 := hkY.same _ _ (Nat.le_refl B) ((World.putObj_heap_other (Nat.ne_of_lt (Nat.lt_succ_self B))).trans hd1) rfl
  refine ⟨_, _, run_endRound none hl2, rfl, ⟨H.put _ _ _ _ _ hTY (Nat.le_succ B) hl2 rfl, World.putObj_heap_same (Array.getElem?_eq_some_iff.1 hl2).1, (World.putObj_heap_other (Nat.ne_of_lt (Nat.lt_succ_self B))).trans hd2⟩, ?_⟩
  exact H.transE _ _ _ he (H.transE _ _ _ (H.putE _ _ _ hl1 rfl) (H.transE _ _ _ heY (H.putE _ _ _ hl2 rfl)))

theorem range_told {α : Type} {F : Fence} {n : Nat} {P : Program} {g : Operand} {ps : Array Tmp} {assign body : Code} {Q : Exit → Act → World → Prop} {a : Act} {w w0 : World}
    (hro : F.round = none) (h1 : 1 ≤ n) {gf : Nat} {lb : Array Value} (hg : a.eval g = .func (.func gf) #[] lb) (hF : F.fn gf) (eg : ∀ args w, (callFunc gf args).run P w = .ok (.enter gf args) w)
    {encs : α → Array Value} {T : List α → World → Prop} {G : List α → α → World → Prop} {E : World → World → Prop} {M : List α → α → Act → World → Prop} {S : List α → Prop}
    (hI : Tells F (n - 1) P gf lb encs G E S w0) (hb : Below w0.heap.size w0 w) (hab : OwnFrom w.heap.size T) (H : Rounds F (n - 1 - 1) P w.heap.size a.tmps ps assign body encs T G E M)
    (h0 : T [] w)
    (hdone : ∀ xs W, S xs → T xs W → W.heap[w.heap.size]? = some (.deferred (some [])) → Q .normal { a with defers := { target := .collected w.heap.size, args := #[] } :: a.defers } W) :
    (Code.rangeFunc g ps assign body).wpIn F n P Q a w := by
  refine wpIn_rangeFunc fun fn hfn => ?_
  rw [hro]
  obtain ⟨rc, hrc⟩ : ∃ rc : Loop, rc = { state := .ready, pending := none, fn, tmps := a.tmps, params := ps, assign, body, defers := w.heap.size } := ⟨_, rfl⟩
  obtain ⟨W1, hW1⟩ : ∃ W1, (w.alloc (.deferred (some []))).alloc (.loop rc) = W1 := ⟨_, rfl⟩
  have hz : W1.heap.size = w.heap.size + 2 := by rw [← hW1]; simp
  have hl : W1.heap[w.heap.size + 1]? = some (.loop rc) := by
    rw [← hW1]
    have := World.alloc_heap_new (w.alloc (.deferred (some []))) (.loop rc)
    rwa [World.size_alloc] at this
  have hd : W1.heap[w.heap.size]? = some (.deferred (some [])) := by
    rw [← hW1]
    exact (Below.heap_alloc _ _ _ (by simp)).trans (World.alloc_heap_new w _)
  have hgr : w.grownBy W1 none := by
    rw [← hW1]
    have h2 := World.grownBy_alloc (w.alloc (.deferred (some []))) (.loop rc) none
    have h3 := World.grownBy_alloc w (.deferred (some [])) none
    exact ⟨h2.os.trans h3.os, h2.tape.trans h3.tape, h2.output.trans h3.output, Nat.le_trans h3.size h2.size, fun k hk hn => (h2.block k (Nat.lt_of_lt_of_le hk h3.size) hn).trans (h3.block k hk hn)⟩
  have hT1 : T [] W1 := hab _ _ _ _ h0 hgr (fun r e => by cases e)
  have hb1 : Below w0.heap.size w0 W1 := by
    rw [← hW1]
    exact (hb.alloc hb.size _).alloc (by have := hb.size; simp; omega) _
  refine ⟨w.heap.size + 1, [{ target := .collected w.heap.size, args := #[] }], W1, { target := .fn (.func gf) lb, args := #[.func (.yield (w.heap.size + 1)) #[] #[]] }, W1, gf, #[.func (.yield (w.heap.size + 1)) #[] #[]] ++ lb, W1, ?_, ?_, ?_, ?_, fun _ => h1, ?_⟩
  · rw [← hW1, hrc]; exact run_enterLoop_outer _ _ _ _ _
  · simp only [resolve, hg]
    simp [go_sem]
  · intro f' hf'
    simp [Target.leads] at hf'
    subst hf'
    exact hF
  · simp [invoke, go_sem, eg]
  refine (hI (w.heap.size + 1) (fun pre X => T pre X ∧ X.heap[w.heap.size + 1]? = some (.loop rc) ∧ X.heap[w.heap.size]? = some (.deferred (some []))) W1 hb1 (by have := hb.size; omega) ?_ (fun pre x X hJ hG => round_told H hfn hrc pre x X hJ.1 hG hJ.2.1 hJ.2.2) ⟨hT1, hl, hd⟩).mono ?_
  · intro s X Y row hJ hg' hr
    have hne : ∀ (k : Nat) (o : Obj), k < w.heap.size + 2 → X.heap[k]? = some o → Y.heap[k]? = some o := fun k o hlt hk =>
      (hg'.block k (Array.getElem?_eq_some_iff.1 hk).1 (fun e => by have := (hr k e.symm).1; omega)).trans hk
    refine ⟨hab s X Y row hJ.1 hg' (fun r e => ?_), hne _ _ (by omega) hJ.2.1, hne _ _ (by omega) hJ.2.2⟩
    obtain ⟨h2, h3⟩ := hr r e
    exact ⟨by omega, h3⟩
  · rintro e Y ⟨⟨v, rfl⟩, xs, hS, hT, hlY, hdY⟩
    have he := run_endLoop (P := P) hlY (by rw [hrc]; simp)
    rw [show rc.pending = none by rw [hrc]] at he
    exact ⟨none, _, he, hdone xs _ hS (H.put _ _ _ _ _ hT (Nat.le_succ _) hlY rfl) ((World.putObj_heap_other (Nat.ne_of_lt (Nat.lt_succ_self _))).trans hdY)⟩
end Go.Proofs.Ytgbbckjbpgojaaa
