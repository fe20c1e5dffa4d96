/- A range over an iterator that keeps variables of its own between two rounds: the caller's law, at the wide fence, for a body that never leaves, with a loop variable in a new block each round. The caller's invariant I X is told of the iterator's own blocks, X: it abides stores into them. -/
import Derived.RangeFuncNested
import Derived.RangeFuncBound
import Derived.RangeFuncCalls
import Derived.RangeFuncLeaves
import Derived.RangeFuncBox
import Derived.WalkKit
import Derived.Below
import Derived.Shelf.Abstract
import Derived.OwnWalkIn
import Derived.TacticsInMore
import Derived.LoopNIn
import Derived.LoopIn
import Derived.Test.YtjlobpccnplebaaDoorB1
namespace Go.Proofs.YtjlobpccnplebaaDoor
open Go.RowKit Go.Shelf

/-- what a round keeps for the iterator: its own blocks, those of X, and the block Bs -/
def KeepPriv (X : Nat → Prop) (Bs : Nat) (A B : World) : Prop := (∀ k, X k → B.heap[k]? = A.heap[k]?) ∧ B.heap[Bs]? = A.heap[Bs]? ∧ A.heap.size ≤ B.heap.size
/-- how a round of the body ends: it goes on -/
def PrivPost {α : Type} (X : Nat → Prop) (Bs : Nat) (I : (Nat → Prop) → List α → World → Prop) (xs : List α) (V : World) : Exit → Act → World → Prop
  | .normal, _, V' => KeepsOthers V V' ∧ KeepPriv X Bs V V' ∧ I X xs V'
  | _, _, _ => False
/-- what an invariant abides that is told of the iterator's own blocks -/
structure Abides {α : Type} (I : (Nat → Prop) → List α → World → Prop) : Prop where
  less : ∀ X Y pre A, I X pre A → (∀ k, Y k → X k) → I Y pre A
  fresh : ∀ X pre A, I X pre A → I (fun k => X k ∨ A.heap.size ≤ k) pre A
  grows : ∀ X pre A B, I X pre A → A.grownBy B none → I X pre B
  own : ∀ X pre A g o v, I X pre A → X g → I X pre (A.setCell ⟨g, o, none⟩ v)
/-- what the iterator owes, for whatever invariant abides its own doings -/
def PrivSeq {α : Type} (n : Nat) (P : Program) (gf : Nat) (lb : Array Value) (encs : α → Array Value) (S : List α → Prop) (N Bs : Nat) (w : World) : Prop :=
  ∀ (l : Nat) (J : (Nat → Prop) → List α → World → Prop) (W : World), Below w.heap.size w W → Abides J →
    (∀ X pre x W1, J X pre W1 → (∀ k, X k → k < W1.heap.size) → pre.length < N → YieldAt Fence.wide (n - 1) P l (encs x) W1 fun e W' => e = .returned (.bool true) ∧ J X (pre ++ [x]) W' ∧ KeepPriv X Bs W1 W') →
    J (fun k => W.heap.size ≤ k) [] W →
    CallsIn Fence.wide n P gf (#[.func (.yield l) #[] #[]] ++ lb) W fun e W' => (∃ v, e = .returned v) ∧ ∃ X xs, S xs ∧ J X xs W'

theorem heap_putObj_other {W : World} {l k : Nat} (o : Obj) (h : k ≠ l) : (W.putObj l o).heap[k]? = W.heap[k]? := World.putObj_heap_other h

theorem wpIn_rangePriv {α : Type} {n : Nat} {P : Program} {g : Operand} {ps : Array Tmp} {assign body : Code} {Q : Exit → Act → World → Prop} {a : Act} {w : World}
    (h1 : 1 ≤ n) {gf : Nat} {lb : Array Value} (hg : a.eval g = .func (.func gf) #[] lb) (eg : ∀ args w, (callFunc gf args).run P w = .ok (.enter gf args) w)
    {encs : α → Array Value} {S : List α → Prop} {N Bs : Nat} (hBs : Bs < w.heap.size) (hseq : PrivSeq (n - 1) P gf lb encs S N Bs w) (hps : ∀ x, (encs x).size = ps.size)
    (I : (Nat → Prop) → List α → World → Prop) (hI : Abides I)
    (hIo : ∀ X pre A l o o', I X pre A → w.heap.size ≤ l → A.heap[l]? = some o → o.isCells = false → I X pre (A.putObj l o'))
    (h0 : I (fun k => w.heap.size ≤ k) [] w) (a₁ : α → Nat → Act) (ob : α → Obj)
    (hassign : ∀ (l : Nat) (x : α) (W : World) (K : Act → World → Prop), K (a₁ x W.heap.size) (W.alloc (ob x)) →
      assign.wpIn (Fence.wide.inRound l) (n - 1 - 1) P (Exit.then K (fun _ _ _ => False)) { tmps := (ps.zip (encs x)).foldl (fun t (p, v) => t.setIfInBounds p v) a.tmps, defers := [] } W)
    (hbody : ∀ (l : Nat) (X : Nat → Prop) (pre : List α) (x : α) (V : World) (b : Nat), I X pre V → (∀ k, X k → k < V.heap.size) → w.heap.size ≤ b → V.heap[b]? = some (ob x) → pre.length < N →
      body.wpIn (Fence.wide.inRound l) (n - 1 - 1) P (PrivPost X Bs I (pre ++ [x]) V) (a₁ x b) V)
    (hdone : ∀ (D : Nat) (X : Nat → Prop) (xs : List α) (W : World), w.heap.size ≤ D → S xs → I X xs W → W.heap[D]? = some (.deferred (some [])) → Q .normal { a with defers := { target := .collected D, args := #[] } :: a.defers } W) :
    (Code.rangeFunc g ps assign body).wpIn Fence.wide n P Q a w := by
  refine wpIn_rangeFunc ?_
  intro fn hfn
  obtain ⟨st, hst⟩ : ∃ st : LoopState → Option Code → Loop, st = fun s pe => { state := s, pending := pe, fn := fn, tmps := a.tmps, params := ps, assign := assign, body := body, defers := w.heap.size } := ⟨_, rfl⟩
  obtain ⟨W1, hW1⟩ : ∃ W1, W1 = (w.alloc (.deferred (some []))).alloc (.loop (st .ready none)) := ⟨_, rfl⟩
  have hs1 : W1.heap.size = w.heap.size + 1 + 1 := by rw [hW1]; simp
  have hL : W1.heap[w.heap.size + 1]? = some (.loop (st .ready none)) := by
    rw [hW1]
    have := World.alloc_heap_new (w.alloc (.deferred (some []))) (.loop (st .ready none))
    rwa [World.size_alloc] at this
  have hD : W1.heap[w.heap.size]? = some (.deferred (some [])) := by
    rw [hW1]
    exact (Below.heap_alloc _ _ _ (by simp)).trans (World.alloc_heap_new w _)
  have hgr : I (fun k => W1.heap.size ≤ k) [] W1 := by
    have h2 : I (fun k => w.heap.size ≤ k) [] W1 := by
      rw [hW1]
      exact hI.grows _ _ _ _ (hI.grows _ _ _ _ h0 (World.grownBy_alloc w _ none)) (World.grownBy_alloc _ _ none)
    exact hI.less _ _ _ _ h2 (fun k hk => by omega)
  have hb1 : Below w.heap.size w W1 := by
    rw [hW1]
    exact ((Below.refl _ w).alloc (Nat.le_refl _) _).alloc (by simp) _
  refine ⟨w.heap.size + 1, [{ target := .collected w.heap.size, args := #[] }], W1, { target := .fn (.func gf) lb, args := #[.func (.yield (w.heap.size + 1)) #[] #[]] }, W1, gf,
    #[.func (.yield (w.heap.size + 1)) #[] #[]] ++ lb, W1, ?_, ?_, ?_, ?_, fun _ => h1, ?_⟩
  · rw [hW1, hst]; exact run_enterLoop_outer _ _ _ _ _
  · simp only [resolve, hg]
    simp [go_sem]
  · intro f' _; trivial
  · simp [invoke, go_sem, eg]
  refine (hseq (w.heap.size + 1) (fun X pre W => I X pre W ∧ (∀ k, X k → w.heap.size + 1 + 1 ≤ k) ∧ W.heap[w.heap.size + 1]? = some (.loop (st .ready none)) ∧ W.heap[w.heap.size]? = some (.deferred (some []))) W1 hb1 ?_ ?_ ?_).mono ?_
  · refine ⟨?_, ?_, ?_, ?_⟩
    · rintro X Y pre A ⟨hi, hx, hl, hd⟩ hYX
      exact ⟨hI.less _ _ _ _ hi hYX, fun k hk => hx k (hYX k hk), hl, hd⟩
    · rintro X pre A ⟨hi, hx, hl, hd⟩
      have hlA := (Array.getElem?_eq_some_iff.1 hl).1
      exact ⟨hI.fresh _ _ _ hi, fun k hk => hk.elim (hx k) (fun h => by omega), hl, hd⟩
    · rintro X pre A B ⟨hi, hx, hl, hd⟩ hgw
      have hlA := (Array.getElem?_eq_some_iff.1 hl).1
      have hdA := (Array.getElem?_eq_some_iff.1 hd).1
      exact ⟨hI.grows _ _ _ _ hi hgw, hx, (hgw.block _ hlA (by simp)).trans hl, (hgw.block _ hdA (by simp)).trans hd⟩
    · rintro X pre A k o v ⟨hi, hx, hl, hd⟩ hk
      have := hx k hk
      exact ⟨hI.own _ _ _ _ _ _ hi hk, hx, (Below.heap_setCell A ⟨k, o, none⟩ v _ (show w.heap.size + 1 ≠ k by omega)).trans hl, (Below.heap_setCell A ⟨k, o, none⟩ v _ (show w.heap.size ≠ k by omega)).trans hd⟩
  · rintro X pre x W ⟨hi, hx, hl, hd⟩ hXW hlen
    have hlt : w.heap.size + 1 < W.heap.size := (Array.getElem?_eq_some_iff.1 hl).1
    have hy := run_yield (P := P) (args := encs x) hl (by rw [hst]; exact hps x)
    rw [hst] at hy
    refine ⟨fn, _, assign, body, hy, roundIn_of_wpIn hfn (hassign _ x W _ ?_)⟩
    have hl1 : (W.alloc (ob x)).heap[w.heap.size + 1]? = some (.loop (st .ready none)) := (Below.heap_alloc W _ _ hlt).trans hl
    have hd1 : (W.alloc (ob x)).heap[w.heap.size]? = some (.deferred (some [])) := (Below.heap_alloc W _ _ (by omega)).trans hd
    refine ⟨_, run_beginRound hl1 (by rw [hst]), ?_⟩
    obtain ⟨V, hV⟩ : ∃ V, V = (W.alloc (ob x)).putObj (w.heap.size + 1) (.loop { st .ready none with state := .busy }) := ⟨_, rfl⟩
    rw [← hV]
    have hiV : I X pre V := by
      rw [hV]
      exact hIo _ _ _ _ _ _ (hI.grows _ _ _ _ hi (World.grownBy_alloc W _ none)) (by omega) hl1 rfl
    have hob : V.heap[W.heap.size]? = some (ob x) := by
      rw [hV, heap_putObj_other _ (by omega)]
      exact World.alloc_heap_new W _
    have hlV : V.heap[w.heap.size + 1]? = some (.loop { st .ready none with state := .busy }) := by
      rw [hV]
      exact World.putObj_heap_same (by simp; omega)
    have hdV : V.heap[w.heap.size]? = some (.deferred (some [])) := by
      rw [hV, heap_putObj_other _ (by omega)]
      exact hd1
    have hkV : ∀ k, k < W.heap.size → k ≠ w.heap.size + 1 → V.heap[k]? = W.heap[k]? := fun k hk hne => by
      rw [hV, heap_putObj_other _ hne]
      exact Below.heap_alloc W _ k hk
    have hsV : V.heap.size = W.heap.size + 1 := by rw [hV]; simp [World.putObj]
    refine wpIn_mono (hbody _ X pre x V W.heap.size hiV (fun k hk => by have := hXW k hk; omega) (by omega) hob hlen) ?_
    rintro e a3 V3 hp
    cases e with
    | normal =>
      obtain ⟨hk3, hp3, hi3⟩ := hp
      have hl3 := hk3.same _ _ hlV rfl
      have hd3 := hk3.same _ _ hdV rfl
      have hend := run_endRound (P := P) none hl3
      have hfin : ({ ({ st .ready none with state := .busy } : Loop) with state := if (none : Option Code).isNone then .ready else .done, pending := none } : Loop) = st .ready none := by rw [hst]; rfl
      rw [hfin] at hend
      refine ⟨_, _, hend, rfl, ⟨hIo _ _ _ _ _ _ hi3 (by omega) hl3 rfl, hx, World.putObj_heap_same (Array.getElem?_eq_some_iff.1 hl3).1, (heap_putObj_other _ (by omega)).trans hd3⟩, ?_⟩
      refine ⟨fun k h2 => ?_, ?_, ?_⟩
      · have := hx k h2
        have := hXW k h2
        rw [heap_putObj_other _ (by omega), hp3.1 k h2]
        exact hkV k (by omega) (by omega)
      · rw [heap_putObj_other _ (by omega), hp3.2.1]
        exact hkV Bs (by omega) (by omega)
      · have := hp3.2.2
        simp [World.putObj]
        omega
    | ret => exact hp.elim
    | exit id => exact hp.elim
    | goto t => exact hp.elim
    | panic ch => exact hp.elim
    | outgrown => exact hp.elim
  · exact ⟨hgr, fun k hk => by omega, hL, hD⟩
  · rintro e W2 ⟨⟨v, rfl⟩, X, xs, hS, hi, hx, hl, hd⟩
    have hend := run_endLoop (P := P) hl (by rw [hst]; simp)
    refine ⟨none, _, by rw [hend, hst], ?_⟩
    exact hdone _ X xs _ (Nat.le_refl _) hS (hIo _ _ _ _ _ _ hi (by omega) hl rfl) ((heap_putObj_other _ (by omega)).trans hd)
end Go.Proofs.YtjlobpccnplebaaDoor
