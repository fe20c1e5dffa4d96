import Derived.RangeFuncNested
import Derived.RangeFuncBound
import Derived.RangeFuncCalls
import Derived.RangeFuncLeaves
import Derived.RangeFuncBox
import Derived.WalkKit
import Derived.Below
import Derived.Shelf.Abstract
import Derived.OwnWalkIn
import Derived.TacticsInMore
import Derived.LoopNIn
import Derived.LoopIn
import Derived.Test.YtcieihbknfeddaaDoorB1
import Derived.Test.YtcieihbknfeddaaDoorB5
import Derived.Test.YtcieihbknfeddaaDoorB3
import Derived.Test.YtcieihbknfeddaaDoorB2
import Derived.Shelf.RegionOpen
import Derived.Sort.CutIn
import Derived.Deep.RegionWith
import Derived.Test.YtcieihbknfeddaaDoorB4
import Derived.Maps.OwnIn
import Derived.Test.YtcieihbknfeddaaDoorMr
import Derived.Test.YtcieihbknfeddaaDoorB9
import Derived.Test.YtcieihbknfeddaaDoorI7
/- A range over an iterator that keeps variables of its own between two rounds: the caller's law, at the wide fence, for a body that never leaves, with a loop variable in a new block each round. The caller's invariant I X is told of the iterator's own blocks, X: it abides stores into them. -/
namespace Go.Proofs.YtcieihbknfeddaaDoor
open Go.RowKit Go.Shelf

/-- what a round keeps for the iterator: its own blocks, those of X, and the block Bs -/
def KeepPriv (X : Nat → Prop) (Bs : Nat) (A B : World) : Prop := (∀ k, X k → B.heap[k]? = A.heap[k]?) ∧ B.heap[Bs]? = A.heap[Bs]? ∧ A.heap.size ≤ B.heap.size
/-- how a round of the body ends: it goes on -/
def PrivPost {α : Type} (X : Nat → Prop) (Bs : Nat) (I : (Nat → Prop) → List α → World → Prop) (xs : List α) (V : World) : Exit → Act → World → Prop
  | .normal, _, V' => KeepsOthers V V' ∧ KeepPriv X Bs V V' ∧ I X xs V'
  | _, _, _ => False
/-- what an invariant abides that is told of the iterator's own blocks -/
structure Abides {α : Type} (I : (Nat → Prop) → List α → World → Prop) : Prop where
  less : ∀ X Y pre A, I X pre A → (∀ k, Y k → X k) → I Y pre A
  fresh : ∀ X pre A, I X pre A → I (fun k => X k ∨ A.heap.size ≤ k) pre A
  grows : ∀ X pre A B, I X pre A → A.grownBy B none → I X pre B
  own : ∀ X pre A g o v, I X pre A → X g → I X pre (A.setCell ⟨g, o, none⟩ v)
/-- what the iterator owes, for whatever invariant abides its own doings -/
def PrivSeq {α : Type} (n : Nat) (P : Program) (gf : Nat) (lb : Array Value) (encs : α → Array Value) (S : List α → Prop) (N Bs : Nat) (w : World) : Prop :=
  ∀ (l : Nat) (J : (Nat → Prop) → List α → World → Prop) (W : World), Below w.heap.size w W → Abides J →
    (∀ X pre x W1, J X pre W1 → (∀ k, X k → k < W1.heap.size) → pre.length < N → YieldAt Fence.wide (n - 1) P l (encs x) W1 fun e W' => e = .returned (.bool true) ∧ J X (pre ++ [x]) W' ∧ KeepPriv X Bs W1 W') →
    J (fun k => W.heap.size ≤ k) [] W →
    CallsIn Fence.wide n P gf (#[.func (.yield l) #[] #[]] ++ lb) W fun e W' => (∃ v, e = .returned v) ∧ ∃ X xs, S xs ∧ J X xs W'

theorem heap_putObj_other {W : World} {l k : Nat} (o : Obj) (h : k ≠ l) : (W.putObj l o).heap[k]? = W.heap[k]? := World.putObj_heap_other h

theorem wpIn_rangePriv {α : Type} {n : Nat} {P : Program} {g : Operand} {ps : Array Tmp} {assign body : Code} {Q : Exit → Act → World → Prop} {a : Act} {w : World}
    (h1 : 1 ≤ n) {gf : Nat} {lb : Array Value} (hg : a.eval g = .func (.func gf) #[] lb) (eg : ∀ args w, (callFunc gf args).run P w = .ok (.enter gf args) w)
    {encs : α → Array Value} {S : List α → Prop} {N Bs : Nat} (hBs : Bs < w.heap.size) (hseq : PrivSeq (n - 1) P gf lb encs S N Bs w) (hps : ∀ x, (encs x).size = ps.size)
    (I : (Nat → Prop) → List α → World → Prop) (hI : Abides I)
    (hIo : ∀ X pre A l o o', I X pre A → w.heap.size ≤ l → A.heap[l]? = some o → o.isCells = false → I X pre (A.putObj l o'))
    (h0 : I (fun k => w.heap.size ≤ k) [] w) (a₁ : α → Nat → Act) (ob : α → Obj)
    (hassign : ∀ (l : Nat) (x : α) (W : World) (K : Act → World → Prop), K (a₁ x W.heap.size) (W.alloc (ob x)) →
      assign.wpIn (Fence.wide.inRound l) (n - 1 - 1) P (Exit.then K (fun _ _ _ => False)) { tmps := (ps.zip (encs x)).foldl (fun t (p, v) => t.setIfInBounds p v) a.tmps, defers := [] } W)
    (hbody : ∀ (l : Nat) (X : Nat → Prop) (pre : List α) (x : α) (V : World) (b : Nat), I X pre V → (∀ k, X k → k < V.heap.size) → w.heap.size ≤ b → V.heap[b]? = some (ob x) → pre.length < N →
      body.wpIn (Fence.wide.inRound l) (n - 1 - 1) P (PrivPost X Bs I (pre ++ [x]) V) (a₁ x b) V)
    (hdone : ∀ (D : Nat) (X : Nat → Prop) (xs : List α) (W : World), w.heap.size ≤ D → S xs → I X xs W → W.heap[D]? = some (.deferred (some [])) → Q .normal { a with defers := { target := .collected D, args := #[] } :: a.defers } W) :
    (Code.rangeFunc g ps assign body).wpIn Fence.wide n P Q a w := by
  refine wpIn_rangeFunc ?_
  intro fn hfn
  obtain ⟨st, hst⟩ : ∃ st : LoopState → Option Code → Loop, st = fun s pe => { state := s, pending := pe, fn := fn, tmps := a.tmps, params := ps, assign := assign, body := body, defers := w.heap.size } := ⟨_, rfl⟩
  obtain ⟨W1, hW1⟩ : ∃ W1, W1 = (w.alloc (.deferred (some []))).alloc (.loop (st .ready none)) := ⟨_, rfl⟩
  have hs1 : W1.heap.size = w.heap.size + 1 + 1 := by rw [hW1]; simp
  have hL : W1.heap[w.heap.size + 1]? = some (.loop (st .ready none)) := by
    rw [hW1]
    have := World.alloc_heap_new (w.alloc (.deferred (some []))) (.loop (st .ready none))
    rwa [World.size_alloc] at this
  have hD : W1.heap[w.heap.size]? = some (.deferred (some [])) := by
    rw [hW1]
    exact (Below.heap_alloc _ _ _ (by simp)).trans (World.alloc_heap_new w _)
  have hgr : I (fun k => W1.heap.size ≤ k) [] W1 := by
    have h2 : I (fun k => w.heap.size ≤ k) [] W1 := by
      rw [hW1]
      exact hI.grows _ _ _ _ (hI.grows _ _ _ _ h0 (World.grownBy_alloc w _ none)) (World.grownBy_alloc _ _ none)
    exact hI.less _ _ _ _ h2 (fun k hk => by omega)
  have hb1 : Below w.heap.size w W1 := by
    rw [hW1]
    exact ((Below.refl _ w).alloc (Nat.le_refl _) _).alloc (by simp) _
  refine ⟨w.heap.size + 1, [{ target := .collected w.heap.size, args := #[] }], W1, { target := .fn (.func gf) lb, args := #[.func (.yield (w.heap.size + 1)) #[] #[]] }, W1, gf,
    #[.func (.yield (w.heap.size + 1)) #[] #[]] ++ lb, W1, ?_, ?_, ?_, ?_, fun _ => h1, ?_⟩
  · rw [hW1, hst]; exact run_enterLoop_outer _ _ _ _ _
  · simp only [resolve, hg]
    simp [go_sem]
  · intro f' _; trivial
  · simp [invoke, go_sem, eg]
  refine (hseq (w.heap.size + 1) (fun X pre W => I X pre W ∧ (∀ k, X k → w.heap.size + 1 + 1 ≤ k) ∧ W.heap[w.heap.size + 1]? = some (.loop (st .ready none)) ∧ W.heap[w.heap.size]? = some (.deferred (some []))) W1 hb1 ?_ ?_ ?_).mono ?_
  · refine ⟨?_, ?_, ?_, ?_⟩
    · rintro X Y pre A ⟨hi, hx, hl, hd⟩ hYX
      exact ⟨hI.less _ _ _ _ hi hYX, fun k hk => hx k (hYX k hk), hl, hd⟩
    · rintro X pre A ⟨hi, hx, hl, hd⟩
      have hlA := (Array.getElem?_eq_some_iff.1 hl).1
      exact ⟨hI.fresh _ _ _ hi, fun k hk => hk.elim (hx k) (fun h => by omega), hl, hd⟩
    · rintro X pre A B ⟨hi, hx, hl, hd⟩ hgw
      have hlA := (Array.getElem?_eq_some_iff.1 hl).1
      have hdA := (Array.getElem?_eq_some_iff.1 hd).1
      exact ⟨hI.grows _ _ _ _ hi hgw, hx, (hgw.block _ hlA (by simp)).trans hl, (hgw.block _ hdA (by simp)).trans hd⟩
    · rintro X pre A k o v ⟨hi, hx, hl, hd⟩ hk
      have := hx k hk
      exact ⟨hI.own _ _ _ _ _ _ hi hk, hx, (Below.heap_setCell A ⟨k, o, none⟩ v _ (show w.heap.size + 1 ≠ k by omega)).trans hl, (Below.heap_setCell A ⟨k, o, none⟩ v _ (show w.heap.size ≠ k by omega)).trans hd⟩
  · rintro X pre x W ⟨hi, hx, hl, hd⟩ hXW hlen
    have hlt : w.heap.size + 1 < W.heap.size := (Array.getElem?_eq_some_iff.1 hl).1
    have hy := run_yield (P := P) (args := encs x) hl (by rw [hst]; exact hps x)
    rw [hst] at hy
    refine ⟨fn, _, assign, body, hy, roundIn_of_wpIn hfn (hassign _ x W _ ?_)⟩
    have hl1 : (W.alloc (ob x)).heap[w.heap.size + 1]? = some (.loop (st .ready none)) := (Below.heap_alloc W _ _ hlt).trans hl
    have hd1 : (W.alloc (ob x)).heap[w.heap.size]? = some (.deferred (some [])) := (Below.heap_alloc W _ _ (by omega)).trans hd
    refine ⟨_, run_beginRound hl1 (by rw [hst]), ?_⟩
    obtain ⟨V, hV⟩ : ∃ V, V = (W.alloc (ob x)).putObj (w.heap.size + 1) (.loop { st .ready none with state := .busy }) := ⟨_, rfl⟩
    rw [← hV]
    have hiV : I X pre V := by
      rw [hV]
      exact hIo _ _ _ _ _ _ (hI.grows _ _ _ _ hi (World.grownBy_alloc W _ none)) (by omega) hl1 rfl
    have hob : V.heap[W.heap.size]? = some (ob x) := by
      rw [hV, heap_putObj_other _ (by omega)]
      exact World.alloc_heap_new W _
    have hlV : V.heap[w.heap.size + 1]? = some (.loop { st .ready none with state := .busy }) := by
      rw [hV]
      exact World.putObj_heap_same (by simp; omega)
    have hdV : V.heap[w.heap.size]? = some (.deferred (some [])) := by
      rw [hV, heap_putObj_other _ (by omega)]
      exact hd1
    have hkV : ∀ k, k < W.heap.size → k ≠ w.heap.size + 1 → V.heap[k]? = W.heap[k]? := fun k hk hne => by
      rw [hV, heap_putObj_other _ hne]
      exact Below.heap_alloc W _ k hk
    have hsV : V.heap.size = W.heap.size + 1 := by rw [hV]; simp [World.putObj]
    refine wpIn_mono (hbody _ X pre x V W.heap.size hiV (fun k hk => by have := hXW k hk; omega) (by omega) hob hlen) ?_
    rintro e a3 V3 hp
    cases e with
    | normal =>
      obtain ⟨hk3, hp3, hi3⟩ := hp
      have hl3 := hk3.same _ _ hlV rfl
      have hd3 := hk3.same _ _ hdV rfl
      have hend := run_endRound (P := P) none hl3
      have hfin : ({ ({ st .ready none with state := .busy } : Loop) with state := if (none : Option Code).isNone then .ready else .done, pending := none } : Loop) = st .ready none := by rw [hst]; rfl
      rw [hfin] at hend
      refine ⟨_, _, hend, rfl, ⟨hIo _ _ _ _ _ _ hi3 (by omega) hl3 rfl, hx, World.putObj_heap_same (Array.getElem?_eq_some_iff.1 hl3).1, (heap_putObj_other _ (by omega)).trans hd3⟩, ?_⟩
      refine ⟨fun k h2 => ?_, ?_, ?_⟩
      · have := hx k h2
        have := hXW k h2
        rw [heap_putObj_other _ (by omega), hp3.1 k h2]
        exact hkV k (by omega) (by omega)
      · rw [heap_putObj_other _ (by omega), hp3.2.1]
        exact hkV Bs (by omega) (by omega)
      · have := hp3.2.2
        simp [World.putObj]
        omega
    | ret => exact hp.elim
    | exit id => exact hp.elim
    | goto t => exact hp.elim
    | panic ch => exact hp.elim
    | outgrown => exact hp.elim
  · exact ⟨hgr, fun k hk => by omega, hL, hD⟩
  · rintro e W2 ⟨⟨v, rfl⟩, X, xs, hS, hi, hx, hl, hd⟩
    have hend := run_endLoop (P := P) hl (by rw [hst]; simp)
    refine ⟨none, _, by rw [hend, hst], ?_⟩
    exact hdone _ X xs _ (Nat.le_refl _) hS (hIo _ _ _ _ _ _ hi (by omega) hl rfl) ((heap_putObj_other _ (by omega)).trans hd)
end Go.Proofs.YtcieihbknfeddaaDoor

/- A range over an iterator that keeps variables of its own (XVf), within a round of another loop: the caller's law. -/
namespace Go.Proofs.YtcieihbknfeddaaDoor
open Go.RowKit Go.Shelf

theorem wpIn_rangePrivN {α : Type} {n : Nat} {P : Program} {g : Operand} {ps : Array Tmp} {assign body : Code} {Q : Exit → Act → World → Prop} {a : Act} {w : World}
    {l₀ : Nat} {r₀ : Loop} (hl₀ : w.heap[l₀]? = some (.loop r₀))
    (h1 : 1 ≤ n) {gf : Nat} {lb : Array Value} (hg : a.eval g = .func (.func gf) #[] lb) (eg : ∀ args w, (callFunc gf args).run P w = .ok (.enter gf args) w)
    {encs : α → Array Value} {S : List α → Prop} {N Bs : Nat} (hBs : Bs < w.heap.size) (hseq : PrivSeq (n - 1) P gf lb encs S N Bs w) (hps : ∀ x, (encs x).size = ps.size)
    (I : (Nat → Prop) → List α → World → Prop) (hI : Abides I)
    (hIo : ∀ X pre A l o o', I X pre A → w.heap.size ≤ l → A.heap[l]? = some o → o.isCells = false → I X pre (A.putObj l o'))
    (h0 : I (fun k => w.heap.size ≤ k) [] w) (a₁ : α → Nat → Act) (ob : α → Obj)
    (hassign : ∀ (l : Nat) (x : α) (W : World) (K : Act → World → Prop), K (a₁ x W.heap.size) (W.alloc (ob x)) →
      assign.wpIn (Fence.wide.inRound l) (n - 1 - 1) P (Exit.then K (fun _ _ _ => False)) { tmps := (ps.zip (encs x)).foldl (fun t (p, v) => t.setIfInBounds p v) a.tmps, defers := [] } W)
    (hbody : ∀ (l : Nat) (X : Nat → Prop) (pre : List α) (x : α) (V : World) (b : Nat), I X pre V → (∀ k, X k → k < V.heap.size) → w.heap.size ≤ b → V.heap[b]? = some (ob x) → pre.length < N →
      body.wpIn (Fence.wide.inRound l) (n - 1 - 1) P (PrivPost X Bs I (pre ++ [x]) V) (a₁ x b) V)
    (hdone : ∀ (X : Nat → Prop) (xs : List α) (W : World), S xs → I X xs W → Q .normal a W) :
    (Code.rangeFunc g ps assign body).wpIn (Fence.wide.inRound l₀) n P Q a w := by
  refine wpIn_rangeFunc ?_
  intro fn hfn
  rw [show (Fence.wide.inRound l₀).round = some l₀ from rfl]
  obtain ⟨st, hst⟩ : ∃ st : LoopState → Option Code → Loop, st = fun s pe => { state := s, pending := pe, fn := fn, tmps := a.tmps, params := ps, assign := assign, body := body, defers := r₀.defers } := ⟨_, rfl⟩
  obtain ⟨W1, hW1⟩ : ∃ W1, W1 = w.alloc (.loop (st .ready none)) := ⟨_, rfl⟩
  have hs1 : W1.heap.size = w.heap.size + 1 := by rw [hW1]; simp
  have hL : W1.heap[w.heap.size]? = some (.loop (st .ready none)) := by
    rw [hW1]
    exact World.alloc_heap_new w (.loop (st .ready none))
  have hgr : I (fun k => W1.heap.size ≤ k) [] W1 := by
    have h2 : I (fun k => w.heap.size ≤ k) [] W1 := by
      rw [hW1]
      exact hI.grows _ _ _ _ h0 (World.grownBy_alloc w _ none)
    exact hI.less _ _ _ _ h2 (fun k hk => by omega)
  have hb1 : Below w.heap.size w W1 := by
    rw [hW1]
    exact (Below.refl _ w).alloc (Nat.le_refl _) _
  refine ⟨w.heap.size, [], W1, { target := .fn (.func gf) lb, args := #[.func (.yield w.heap.size) #[] #[]] }, W1, gf,
    #[.func (.yield w.heap.size) #[] #[]] ++ lb, W1, ?_, ?_, ?_, ?_, fun _ => h1, ?_⟩
  · rw [hW1, hst]; exact run_enterLoop_inner hl₀ _ _ _ _ _
  · simp only [resolve, hg]
    simp [go_sem]
  · intro f' _; trivial
  · simp [invoke, go_sem, eg]
  refine (CallsIn.inRound l₀ (hseq w.heap.size (fun X pre W => I X pre W ∧ (∀ k, X k → w.heap.size + 1 ≤ k) ∧ W.heap[w.heap.size]? = some (.loop (st .ready none))) W1 hb1 ?_ ?_ ?_)).mono ?_
  · refine ⟨?_, ?_, ?_, ?_⟩
    · rintro X Y pre A ⟨hi, hx, hl⟩ hYX
      exact ⟨hI.less _ _ _ _ hi hYX, fun k hk => hx k (hYX k hk), hl⟩
    · rintro X pre A ⟨hi, hx, hl⟩
      have hlA := (Array.getElem?_eq_some_iff.1 hl).1
      exact ⟨hI.fresh _ _ _ hi, fun k hk => hk.elim (hx k) (fun h => by omega), hl⟩
    · rintro X pre A B ⟨hi, hx, hl⟩ hgw
      have hlA := (Array.getElem?_eq_some_iff.1 hl).1
      exact ⟨hI.grows _ _ _ _ hi hgw, hx, (hgw.block _ hlA (by simp)).trans hl⟩
    · rintro X pre A k o v ⟨hi, hx, hl⟩ hk
      have := hx k hk
      exact ⟨hI.own _ _ _ _ _ _ hi hk, hx, (Below.heap_setCell A ⟨k, o, none⟩ v _ (show w.heap.size ≠ k by omega)).trans hl⟩
  · rintro X pre x W ⟨hi, hx, hl⟩ hXW hlen
    have hlt : w.heap.size < W.heap.size := (Array.getElem?_eq_some_iff.1 hl).1
    have hy := run_yield (P := P) (args := encs x) hl (by rw [hst]; exact hps x)
    rw [hst] at hy
    refine ⟨fn, _, assign, body, hy, roundIn_of_wpIn hfn (hassign _ x W _ ?_)⟩
    have hl1 : (W.alloc (ob x)).heap[w.heap.size]? = some (.loop (st .ready none)) := (Below.heap_alloc W _ _ hlt).trans hl
    refine ⟨_, run_beginRound hl1 (by rw [hst]), ?_⟩
    obtain ⟨V, hV⟩ : ∃ V, V = (W.alloc (ob x)).putObj w.heap.size (.loop { st .ready none with state := .busy }) := ⟨_, rfl⟩
    rw [← hV]
    have hiV : I X pre V := by
      rw [hV]
      exact hIo _ _ _ _ _ _ (hI.grows _ _ _ _ hi (World.grownBy_alloc W _ none)) (Nat.le_refl _) hl1 rfl
    have hob : V.heap[W.heap.size]? = some (ob x) := by
      rw [hV, heap_putObj_other _ (by omega)]
      exact World.alloc_heap_new W _
    have hlV : V.heap[w.heap.size]? = some (.loop { st .ready none with state := .busy }) := by
      rw [hV]
      exact World.putObj_heap_same (by simp; omega)
    have hkV : ∀ k, k < W.heap.size → k ≠ w.heap.size → V.heap[k]? = W.heap[k]? := fun k hk hne => by
      rw [hV, heap_putObj_other _ hne]
      exact Below.heap_alloc W _ k hk
    have hsV : V.heap.size = W.heap.size + 1 := by rw [hV]; simp [World.putObj]
    refine wpIn_mono (hbody _ X pre x V W.heap.size hiV (fun k hk => by have := hXW k hk; omega) (by omega) hob hlen) ?_
    rintro e a3 V3 hp
    cases e with
    | normal =>
      obtain ⟨hk3, hp3, hi3⟩ := hp
      have hl3 := hk3.same _ _ hlV rfl
      have hend := run_endRound (P := P) none hl3
      have hfin : ({ ({ st .ready none with state := .busy } : Loop) with state := if (none : Option Code).isNone then .ready else .done, pending := none } : Loop) = st .ready none := by rw [hst]; rfl
      rw [hfin] at hend
      refine ⟨_, _, hend, rfl, ⟨hIo _ _ _ _ _ _ hi3 (Nat.le_refl _) hl3 rfl, hx, World.putObj_heap_same (Array.getElem?_eq_some_iff.1 hl3).1⟩, ?_⟩
      refine ⟨fun k h2 => ?_, ?_, ?_⟩
      · have := hx k h2
        have := hXW k h2
        rw [heap_putObj_other _ (by omega), hp3.1 k h2]
        exact hkV k (by omega) (by omega)
      · rw [heap_putObj_other _ (by omega), hp3.2.1]
        exact hkV Bs (by omega) (by omega)
      · have := hp3.2.2
        simp [World.putObj]
        omega
    | ret => exact hp.elim
    | exit id => exact hp.elim
    | goto t => exact hp.elim
    | panic ch => exact hp.elim
    | outgrown => exact hp.elim
  · exact ⟨hgr, fun k hk => by omega, hL⟩
  · rintro e W2 ⟨⟨v, rfl⟩, X, xs, hS, hi, hx, hl⟩
    have hend := run_endLoop (P := P) hl (by rw [hst]; simp)
    refine ⟨none, _, by rw [hend, hst], ?_⟩
    exact hdone X xs _ hS (hIo _ _ _ _ _ _ hi (Nat.le_refl _) hl rfl)
end Go.Proofs.YtcieihbknfeddaaDoor

/- Plain mathematics of fractions: which lists have a value. -/
namespace Go.Proofs.YtcieihbknfeddaaDoor
open Go.RowKit

def rngB (b : Int) : Bool := decide (2 ≤ b) && decide (b ≤ 100)
theorem rngB_in {b : Int} (h : rngB b = true) : 2 ≤ b ∧ b ≤ 100 := by simpa [rngB] using h
theorem rngB_out {b : Int} (h : rngB b = false) : b < 2 ∨ (2 ≤ b ∧ 100 < b) := by
  unfold rngB at h
  by_cases h1 : 2 ≤ b <;> by_cases h2 : b ≤ 100 <;> simp [h1, h2] at h <;> omega
def lenB (n : Nat) : Bool := decide (1 ≤ n) && decide (n ≤ 20)
theorem len_in {n : Nat} (h : lenB n = true) : 1 ≤ n ∧ n ≤ 20 := by simpa [lenB] using h
theorem len_out {n : Nat} (h : lenB n = false) : n = 0 ∨ (1 ≤ n ∧ 20 < n) := by
  unfold lenB at h
  by_cases h1 : 1 ≤ n <;> by_cases h2 : n ≤ 20 <;> simp [h1, h2] at h <;> omega
def lstB (l : List Int) : Bool := lenB l.length && l.all rngB
theorem lst_in {l : List Int} (h : lstB l = true) : lenB l.length = true ∧ ∀ b ∈ l, rngB b = true := by simpa [lstB] using h
theorem lst_two {l : List Int} (h : ∀ b ∈ l, rngB b = true) : twoUp l := fun b hb => (rngB_in (h b hb)).1
def valB (l : List Int) : Bool := lstB l && decide (contN l ≤ 1000000000)
theorem val_in {l : List Int} (h : valB l = true) : lstB l = true ∧ contN l ≤ 1000000000 := by simpa [valB] using h
theorem val_no {l : List Int} (h : lstB l = false) : valB l = false := by simp [valB, h]
/-- a list with an end whose number is too great -/
theorem val_great {m s : List Int} (h : ∀ b ∈ m ++ s, rngB b = true) (hs : 1000000000 < contN s) : valB (m ++ s) = false := by
  have := cont_app_le m s (lst_two h)
  have h2 : ¬ contN (m ++ s) ≤ 1000000000 := by omega
  simp [valB, h2]
theorem lst_bad {l : List Int} {b : Int} (hb : b ∈ l) (h : rngB b = false) : lstB l = false := by
  cases h2 : lstB l
  · rfl
  · have := (lst_in h2).2 b hb
    rw [h] at this; cases this
theorem lst_long {l : List Int} (h : lenB l.length = false) : lstB l = false := by simp [lstB, h]
theorem lst_all {l : List Int} (h1 : lenB l.length = true) (h2 : ∀ j, j < l.length → rngB (l[j]?.getD 0) = true) : lstB l = true := by
  unfold lstB
  rw [h1, Bool.true_and, List.all_eq_true]
  intro b hb
  obtain ⟨j, hj, rfl⟩ := List.mem_iff_getElem.1 hb
  have := h2 j hj
  simpa [hj] using this
theorem get_mem {l : List Int} {j : Nat} (h : j < l.length) : l[j]?.getD 0 ∈ l := by simp [h]
theorem drop_get {l : List Int} {j : Nat} (h : j < l.length) : l.drop j = l[j]?.getD 0 :: l.drop (j + 1) := by
  rw [List.drop_eq_getElem_cons h]
  simp [h]
end Go.Proofs.YtcieihbknfeddaaDoor

/- The whole base: the model's side, cones that are not smooth; ConeBase of the model. -/
namespace Go.Proofs.YtcieihbknfeddaaDoor
open Go.RowKit

theorem fracC_ne {a b c d : Int} (h : coneB a b c d = true) (hd : detZ a b c d ≠ 1) : fracC a b c d ≠ [] := by
  obtain ⟨_, o1, _, o2, _⟩ := cone_in h
  have hk := kindC_rng h
  have hg := kind_gcd (oneB_true o1) (oneB_true o2)
  have h0 : 0 < kindC a b c d := by
    by_cases h0 : 0 < kindC a b c d
    · exact h0
    · have e : kindZ a b c d = 0 := by show kindC a b c d = 0; omega
      rw [e, gcdZ_zero] at hg
      have : detZ a b c d = 1 := by
        have hp : 0 < detZ a b c d := by omega
        have hq : max (detZ a b c d) (-detZ a b c d) = 1 := hg
        omega
      exact absurd this hd
  unfold fracC
  rw [frac_pos _ h0]
  simp
/-- a variable in block g that holds the vector x, y -/
def VecAt (W : World) (g : Nat) (x y : Int) : Prop := (W.cell? ⟨g, 0, none⟩ = some (.int .i64 x) ∧ W.cell? ⟨g, 1, none⟩ = some (.int .i64 y)) ∧ (W.frozen? ⟨g, 0, none⟩ = false ∧ W.frozen? ⟨g, 1, none⟩ = false) ∧ g < W.heap.size
theorem VecAt.same {W W' : World} {g : Nat} {x y : Int} (h : VecAt W g x y) (e : W'.heap[g]? = W.heap[g]?) (hs : W.heap.size ≤ W'.heap.size) : VecAt W' g x y := by
  obtain ⟨⟨h1, h2⟩, ⟨h3, h4⟩, h5⟩ := h
  exact ⟨⟨(World.cell?_of_block (a := ⟨g, 0, none⟩) e).trans h1, (World.cell?_of_block (a := ⟨g, 1, none⟩) e).trans h2⟩, ⟨(World.frozen?_of_block (a := ⟨g, 0, none⟩) e).trans h3, (World.frozen?_of_block (a := ⟨g, 1, none⟩) e).trans h4⟩, Nat.lt_of_lt_of_le h5 hs⟩
theorem VecAt.alloc {W : World} {g : Nat} {x y : Int} (h : VecAt W g x y) (o : Obj) : VecAt (W.alloc o) g x y := h.same (Below.heap_alloc W o g h.2.2) (by simp)
theorem VecAt.new (W : World) (x y : Int) (t : TypeId) : VecAt (W.alloc (.cells #[.int .i64 x, .int .i64 y] t)) W.heap.size x y := by
  refine ⟨⟨?_, ?_⟩, ⟨?_, ?_⟩, by simp⟩ <;> simp
theorem VecAt.put {W : World} {g : Nat} {x y : Int} (h : VecAt W g x y) (u v : Int) : VecAt ((W.setCell ⟨g, 0, none⟩ (.int .i64 u)).setCell ⟨g, 1, none⟩ (.int .i64 v)) g u v := by
  obtain ⟨⟨h1, h2⟩, ⟨h3, h4⟩, h5⟩ := h
  refine ⟨⟨?_, ?_⟩, ⟨by simp [h3], by simp [h4]⟩, by simpa using h5⟩
  · rw [World.cell?_setCell_other _ _ _ _ (by simp)]
    exact World.cell?_setCell_same _ _ _ h1
  · refine World.cell?_setCell_same (u := .int .i64 y) _ _ _ ?_
    rw [World.cell?_setCell_other _ _ _ _ (by simp)]; exact h2
theorem heap_put {W : World} {g k : Nat} (u v : Value) (h : k ≠ g) : ((W.setCell ⟨g, 0, none⟩ u).setCell ⟨g, 1, none⟩ v).heap[k]? = W.heap[k]? := by
  rw [Below.heap_setCell _ _ _ _ h, Below.heap_setCell _ _ _ _ h]
theorem VecAt.other {W : World} {g g' : Nat} {x y : Int} (h : VecAt W g x y) (hne : g ≠ g') (u v : Value) : VecAt ((W.setCell ⟨g', 0, none⟩ u).setCell ⟨g', 1, none⟩ v) g x y :=
  h.same (heap_put u v hne) (by simp)
/-- numbers that lie in block g from its beginning on -/
def NumsAt (W : World) (g : Nat) (l : List Int) : Prop := (∀ j, j < l.length → W.cell? ⟨g, j, none⟩ = some (.int .i64 (l[j]?.getD 0))) ∧ g < W.heap.size
theorem NumsAt.same {W W' : World} {g : Nat} {l : List Int} (h : NumsAt W g l) (e : W'.heap[g]? = W.heap[g]?) (hs : W.heap.size ≤ W'.heap.size) : NumsAt W' g l :=
  ⟨fun j hj => (World.cell?_of_block (a := ⟨g, j, none⟩) e).trans (h.1 j hj), Nat.lt_of_lt_of_le h.2 hs⟩
/-- the list that is made is none of three blocks -/
def Apart (v : Value) (g1 g2 g3 : Nat) : Prop := ∀ k, v.ownBlock = some k → k ≠ g1 ∧ k ≠ g2 ∧ k ≠ g3
theorem Vecs.put {W : World} {base g : Nat} {v : Value} {l : List (Int × Int)} (h : Vecs W base v l) (hne : ∀ k, v.ownBlock = some k → k ≠ g) (x y : Value) : Vecs ((W.setCell ⟨g, 0, none⟩ x).setCell ⟨g, 1, none⟩ y) base v l := by
  have hg : W.grownBy ((W.setCell ⟨g, 0, none⟩ x).setCell ⟨g, 1, none⟩ y) (some g) := ⟨rfl, rfl, rfl, by simp, fun k _ hk => heap_put x y (fun e => hk (by rw [e]))⟩
  exact h.far hg (fun k hk e => hne k hk (by cases e; rfl))

set_option maxHeartbeats 4000000 in
theorem l2Base_more (a b c d : Int) (w : World) (h : coneB a b c d = true) (hd : detZ a b c d ≠ 1) :
    Calls Tryd.prog 108 #[.agg #[.int .i64 (a), .int .i64 (b), .int .i64 (c), .int .i64 (d)]] w (GivesVecs w (baseL a b c d)) := by
  obtain ⟨h1, _, h2, _, hp⟩ := cone_in h
  have hp' := posB_true hp
  have hdb : (detZ a b c d == 1) = false := by simpa using hd
  have hnb : (detZ a b c d == 0) = false := by simp; omega
  have hnn : ¬ detZ a b c d = 0 := by omega
  have HNE := Lib.hid (fracC_ne h hd)
  have HLn := Lib.hid (fracC_len h)
  have hn := det_sz h1 h2
  have hk := kindC_rng h
  obtain ⟨xa, xb⟩ := szs h1
  obtain ⟨xc, xd⟩ := szs h2
  have m1 := mul_bd2 (q := kindC a b c d) (a := a) ⟨hk.1, by omega⟩ xa
  have m2 := mul_bd2 (q := kindC a b c d) (a := b) ⟨hk.1, by omega⟩ xb
  obtain ⟨t1, t2⟩ := base_tdiv h
  have HS := Lib.hid (baseAt_start h)
  have hXY : (-1000 ≤ baseX a b c d ∧ baseX a b c d ≤ 1000) ∧ (-1000 ≤ baseY a b c d ∧ baseY a b c d ≤ 1000) := by
    obtain ⟨_, _, _, _, _, _, _, _, _, _, _, q1, q2⟩ := baseAt_start h
    exact ⟨q1, q2⟩
  obtain ⟨⟨_, _⟩, _, _⟩ := hXY
  have HX := Lib.hid (fun z l done lx ly nx ny hb => baseAt_next (z := z) (l := l) (done := done) (lx := lx) (ly := ly) (nx := nx) (ny := ny) h hb)
  have HE := Lib.hid (fun done lx ly nx ny hb => baseAt_end (a := a) (b := b) (c := c) (d := d) (done := done) (lx := lx) (ly := ly) (nx := nx) (ny := ny) hb)
  have HLL := Lib.hid (fun w' => l2List_any a b c d w' h)
  have HK := Lib.hid (fun w' => l2Kind_any a b c d w' h)
  have HD := Lib.hid (fun w' => l1Det_any a b c d w' h1 h2)
  have HO := Lib.hid (fun w' => Vecs.one w' a b)
  have HT : Hid (∀ l done lx ly nx ny, BaseAt a b c d l done lx ly nx ny → (baseL a b c d).length ≤ 2000002 ∧ done.length ≤ 2000002) := by
    intro l done lx ly nx ny hb
    have e := baseL_len h
    obtain ⟨_, _, _, e2, _⟩ := hb
    refine ⟨e, ?_⟩
    rw [e2, List.length_append] at e
    omega
  generalize hN : detZ a b c d = N at *
  generalize kindC a b c d = K at *
  generalize fracC a b c d = L at *
  generalize baseX a b c d = X0 at *
  generalize baseY a b c d = Y0 at *
  obtain ⟨_, _⟩ := hn
  obtain ⟨_, _⟩ := hk
  clear h hd hp hN
  go_enter Tryd.func108, Tryd.ntmps108
  go_wp2_with fail
  go_call (HD.out _) as e w1 ⟨rfl, hb1⟩
  have hA : Below w.heap.size w w1 := belowTo (by go_grown) hb1
  have p0 : w1.cell? ⟨w.heap.size, 0, none⟩ = some (.int .i64 (a)) := (hb1.cell (p := ⟨w.heap.size, 0, none⟩) (by first | assumption | (go_size; done) | (simp; omega) | (simp only [World.size_alloc]; omega))).trans (by first | assumption | (go_cell; done) | (go_simp; done) | simp [*]); have pf0 : w1.frozen? ⟨w.heap.size, 0, none⟩ = false := (hb1.frozen (p := ⟨w.heap.size, 0, none⟩) (by first | assumption | (go_size; done) | (simp; omega) | (simp only [World.size_alloc]; omega))).trans (by first | assumption | (go_cell; done) | (go_simp; done) | simp [*]); have p1 : w1.cell? ⟨w.heap.size, 1, none⟩ = some (.int .i64 (b)) := (hb1.cell (p := ⟨w.heap.size, 1, none⟩) (by first | assumption | (go_size; done) | (simp; omega) | (simp only [World.size_alloc]; omega))).trans (by first | assumption | (go_cell; done) | (go_simp; done) | simp [*]); have pf1 : w1.frozen? ⟨w.heap.size, 1, none⟩ = false := (hb1.frozen (p := ⟨w.heap.size, 1, none⟩) (by first | assumption | (go_size; done) | (simp; omega) | (simp only [World.size_alloc]; omega))).trans (by first | assumption | (go_cell; done) | (go_simp; done) | simp [*]); have p2 : w1.cell? ⟨w.heap.size, 2, none⟩ = some (.int .i64 (c)) := (hb1.cell (p := ⟨w.heap.size, 2, none⟩) (by first | assumption | (go_size; done) | (simp; omega) | (simp only [World.size_alloc]; omega))).trans (by first | assumption | (go_cell; done) | (go_simp; done) | simp [*]); have pf2 : w1.frozen? ⟨w.heap.size, 2, none⟩ = false := (hb1.frozen (p := ⟨w.heap.size, 2, none⟩) (by first | assumption | (go_size; done) | (simp; omega) | (simp only [World.size_alloc]; omega))).trans (by first | assumption | (go_cell; done) | (go_simp; done) | simp [*]); have p3 : w1.cell? ⟨w.heap.size, 3, none⟩ = some (.int .i64 (d)) := (hb1.cell (p := ⟨w.heap.size, 3, none⟩) (by first | assumption | (go_size; done) | (simp; omega) | (simp only [World.size_alloc]; omega))).trans (by first | assumption | (go_cell; done) | (go_simp; done) | simp [*]); have pf3 : w1.frozen? ⟨w.heap.size, 3, none⟩ = false := (hb1.frozen (p := ⟨w.heap.size, 3, none⟩) (by first | assumption | (go_size; done) | (simp; omega) | (simp only [World.size_alloc]; omega))).trans (by first | assumption | (go_cell; done) | (go_simp; done) | simp [*])
  have hl : w.heap.size < w1.heap.size := bsize hb1 _ (by simp)
  have HW := Lib.hid (HO.out w1)
  clear hb1 pf0 pf1 pf2 pf3
  go_wp2_with fail
  refine Calls.mono (HLL.out _) ?_
  rintro e w2 ⟨v5, rfl, I5, hb2⟩
  have hA2 : Below w.heap.size w w2 := belowTo (by have := hA.size; go_grown) hb2
  have r0 := (hb2.cell (p := ⟨w.heap.size, 0, none⟩) (by simp only [World.size_alloc]; omega)).trans ((World.cell?_alloc_lt _ _ ⟨w.heap.size, 0, none⟩ hl).trans p0)
  have r1 := (hb2.cell (p := ⟨w.heap.size, 1, none⟩) (by simp only [World.size_alloc]; omega)).trans ((World.cell?_alloc_lt _ _ ⟨w.heap.size, 1, none⟩ hl).trans p1)
  have r2 := (hb2.cell (p := ⟨w.heap.size, 2, none⟩) (by simp only [World.size_alloc]; omega)).trans ((World.cell?_alloc_lt _ _ ⟨w.heap.size, 2, none⟩ hl).trans p2)
  have r3 := (hb2.cell (p := ⟨w.heap.size, 3, none⟩) (by simp only [World.size_alloc]; omega)).trans ((World.cell?_alloc_lt _ _ ⟨w.heap.size, 3, none⟩ hl).trans p3)
  have hl2 : w.heap.size < w2.heap.size := Nat.lt_of_lt_of_le (by simp; omega) hb2.size
  have hg0 : w1.heap.size < w2.heap.size := Nat.lt_of_lt_of_le (by simp) hb2.size
  replace HW := Lib.hid (HW.out.below hb2)
  have I5' : Hid (Ints w2 (w1.heap.size + 1) v5 L) := by show Ints _ _ _ _; simpa using I5
  have hw13 : w.heap.size < w1.heap.size := hl
  clear I5 hb2 p0 p1 p2 p3 hA hl
  go_wp2_with fail
  go_call (HK.out _) as e w3 ⟨rfl, hb3⟩
  have hA3 : Below w.heap.size w w3 := belowTo hA2 hb3
  have s0 := (hb3.cell (p := ⟨w.heap.size, 0, none⟩) hl2).trans r0
  have s1 := (hb3.cell (p := ⟨w.heap.size, 1, none⟩) hl2).trans r1
  have s2 := (hb3.cell (p := ⟨w.heap.size, 2, none⟩) hl2).trans r2
  have s3 := (hb3.cell (p := ⟨w.heap.size, 3, none⟩) hl2).trans r3
  have hl3 : w.heap.size < w3.heap.size := Nat.lt_of_lt_of_le hl2 hb3.size
  have hg3 : w1.heap.size < w3.heap.size := Nat.lt_of_lt_of_le hg0 hb3.size
  replace HW := Lib.hid (HW.out.below hb3)
  replace I5' := Lib.hid (I5'.out.below hb3)
  clear hb3 r0 r1 r2 r3 hA2 hl2 hg0
  have hI5 := I5'.out
  rcases hI5.form with ⟨h0, _⟩ | ⟨_, gl, cl, rfl, hgl, hgls, hlc⟩
  · exact absurd h0 HNE.out
  have HC : Hid (NumsAt w3 gl L) := ⟨fun j hj => hI5.cell j hj, hgls⟩
  obtain ⟨m, hm⟩ : ∃ m, m = L.length := ⟨_, rfl⟩
  have HM := Lib.hid hm
  have hm2 : m ≤ 2000000 := by rw [hm]; exact HLn.out
  rw [← hm]
  clear hI5 I5' hlc hm HNE HLn HLL HK HD HO
  go_wp2
  go_region
  have V7 : VecAt ((w3.alloc (.cells #[.int .i64 a, .int .i64 b] 26)).alloc (.cells #[.int .i64 X0, .int .i64 Y0] 26)).drew w3.heap.size a b := (VecAt.new w3 a b _).alloc _
  have V8 : VecAt ((w3.alloc (.cells #[.int .i64 a, .int .i64 b] 26)).alloc (.cells #[.int .i64 X0, .int .i64 Y0] 26)).drew (w3.heap.size + 1) X0 Y0 := by
    have := VecAt.new (w3.alloc (.cells #[.int .i64 a, .int .i64 b] 26)) X0 Y0 26
    rw [World.size_alloc] at this
    exact this
  have e2 : ∀ g, g < w3.heap.size → (((w3.alloc (.cells #[.int .i64 a, .int .i64 b] 26)).alloc (.cells #[.int .i64 X0, .int .i64 Y0] 26)).drew).heap[g]? = w3.heap[g]? := fun g hg =>
    (Below.heap_alloc (w3.alloc (.cells #[.int .i64 a, .int .i64 b] 26)) _ g (by simp; omega)).trans (Below.heap_alloc w3 _ g hg)
  have VN := HC.out.same (e2 gl HC.out.2) (by simp; omega)
  have VB := e2 w.heap.size hl3
  have VW : Vecs (((w3.alloc (.cells #[.int .i64 a, .int .i64 b] 26)).alloc (.cells #[.int .i64 X0, .int .i64 Y0] 26)).drew) w1.heap.size (.slice (some ⟨w1.heap.size, 0, none⟩) 1 1) [(a, b)] :=
    World.ownsRow.drew ((HW.out.far (row := none) (World.grownBy_alloc w3 (.cells #[.int .i64 a, .int .i64 b] 26) none) (fun k _ e => by cases e)).far (row := none) (World.grownBy_alloc _ (.cells #[.int .i64 X0, .int .i64 Y0] 26) none) (fun k _ e => by cases e))
  have VS : (((w3.alloc (.cells #[.int .i64 a, .int .i64 b] 26)).alloc (.cells #[.int .i64 X0, .int .i64 Y0] 26)).drew).heap.size = w3.heap.size + 1 + 1 := by simp
  have VA : Below w.heap.size w (((w3.alloc (.cells #[.int .i64 a, .int .i64 b] 26)).alloc (.cells #[.int .i64 X0, .int .i64 Y0] 26)).drew) := by have := hA3.size; go_grown
  generalize ((w3.alloc (.cells #[.int .i64 a, .int .i64 b] 26)).alloc (.cells #[.int .i64 X0, .int .i64 Y0] 26)).drew = W6 at *
  have H7 := Lib.hid V7
  have H8 := Lib.hid V8
  have HN := Lib.hid VN
  have HHB := Lib.hid VB
  have HVW := Lib.hid VW
  have HS3 := Lib.hid s3
  have HS2 := Lib.hid s2
  clear V7 V8 VN VB VW e2 s0 s1 s2 s3 HC HW hA3 t1 t2 m1 m2
  obtain ⟨i0, hi, hz0, hz1, hz2⟩ := info_parts infoVec
  go_wp2_with fail
  go_loopw [4, 9] (fun s4 s9 wr => ∃ (k : Nat) (done : List (Int × Int)) (lx ly nx ny : Int) (v4 : Value), v4 = s4 ∧ s9 = .int .i64 k ∧ k ≤ m ∧ Hid (BaseAt a b c d (L.drop k) done lx ly nx ny) ∧ Hid (Vecs wr w1.heap.size s4 done ∧ Apart s4 w3.heap.size (w3.heap.size + 1) gl) ∧ Hid (VecAt wr w3.heap.size lx ly) ∧ Hid (VecAt wr (w3.heap.size + 1) nx ny) ∧ Hid (NumsAt wr gl L) ∧ Hid (wr.heap[w.heap.size]? = w3.heap[w.heap.size]?) ∧ w3.heap.size + 1 + 1 ≤ wr.heap.size ∧ Below w.heap.size w wr) (fun _ s9 _ => m - (intOf s9).toNat)
  case atStart => exact ⟨0, [(a, b)], a, b, X0, Y0, _, rfl, rfl, Nat.zero_le _, HS, ⟨HVW.out, fun k hk => (by have hk' : w1.heap.size = k := (by simpa [Value.ownBlock] using hk); subst hk'; exact ⟨by omega, by omega, by omega⟩)⟩, H7, H8, HN, HHB, by omega, VA⟩
  case round =>
    obtain ⟨k, done, lx, ly, nx, ny, v4, rfl, rfl, hk, HBA, HV, G7, G8, GN, GB, hsz, hB⟩ := hrel
    clear H7 H8 HN HHB HVW HS VA VS
    have hdl := (HT.out _ _ _ _ _ _ HBA.out).2
    have hown : wr.ownsRow w1.heap.size 26 2 _ _ _ := HV.out.1
    have hlt1 := hB.size
    have hgN := GN.out.2
    by_cases hlt : k < m
    · have hkL : k < L.length := by have := HM.out; omega
      have HDr := Lib.hid (drop_get hkL)
      have c1 := GN.out.1 k hkL
      have HB2 := HBA.out
      rw [HDr.out] at HB2
      obtain ⟨hb', ⟨p0, p1⟩, ⟨p2, p3⟩, z0, z1⟩ := HX.out _ _ _ _ _ _ _ HB2
      have HNB := Lib.hid hb'
      have hbd : (-1000 ≤ lx ∧ lx ≤ 1000) ∧ (-1000 ≤ ly ∧ ly ≤ 1000) ∧ (-1000 ≤ nx ∧ nx ≤ 1000) ∧ (-1000 ≤ ny ∧ ny ≤ 1000) := by
        obtain ⟨_, _, _, _, _, _, _, _, _, b1, b2, b3, b4⟩ := HBA.out
        exact ⟨b1, b2, b3, b4⟩
      obtain ⟨⟨_, _⟩, ⟨_, _⟩, ⟨_, _⟩, _, _⟩ := hbd
      obtain ⟨⟨a70, a71⟩, ⟨a72, a73⟩, a74⟩ := G7.out
      obtain ⟨⟨a80, a81⟩, ⟨a82, a83⟩, a84⟩ := G8.out
      clear hb' HB2 HDr HBA hkL
      generalize L[k]?.getD 0 = z at *
      rw [Int.mul_comm] at p0 p1 p2 p3
      have EX := Lib.hid (Int.mul_comm nx z)
      have EY := Lib.hid (Int.mul_comm ny z)
      have j1 : (0 : Int) ≤ (k : Int) := by omega
      have j2 : (k : Int) < (m : Int) := by omega
      go_wp2_with (at_builtin; refine wpList_append_own_at _ rfl _ _ 39 rfl w1.heap.size 26 i0 (.agg #[.int .i64 (0), .int .i64 (0)]) 2 16 Tryd.underlying39 hi hz0 hz1 hz2 rfl (by decide) _ _ _ rfl (hown.alloc _) ⟨wr.heap.size, 0, none⟩ 1 1 [.int .i64 nx, .int .i64 ny] rfl rfl ?c1 ?c2 ?c3 ?c4 ?c5 ?_)
      case c1 =>
        intro j u hj
        match j, hj with
        | 0, hj => simp at hj; subst hj; simp [Addr.add]
        | 1, hj => simp at hj; subst hj; simp [Addr.add]
      case c2 => intro u hu; simp at hu; rcases hu with rfl | rfl <;> rfl
      case c3 => unfold maxLen; omega
      case c4 => omega
      case c5 => simp; omega
      intro v' w5 hown' hgrow _ hat
      have hsz5 : wr.heap.size + 1 ≤ w5.heap.size := by have := hgrow.size; simpa using this
      have eb : ∀ g, g < wr.heap.size → (∀ kk, v4.ownBlock = some kk → kk ≠ g) → w5.heap[g]? = wr.heap[g]? := fun g hg hne =>
        (hgrow.block g (by simp; omega) (fun e => hne g e.symm rfl)).trans (Below.heap_alloc wr _ g hg)
      have U7 := G7.out.same (eb _ a74 (fun kk h => (HV.out.2 kk h).1)) (by omega)
      have U8 := G8.out.same (eb _ a84 (fun kk h => (HV.out.2 kk h).2.1)) (by omega)
      have UN := GN.out.same (eb _ hgN (fun kk h => (HV.out.2 kk h).2.2)) (by omega)
      have UB := (eb w.heap.size (by omega) (fun kk h => by have := (hown.lt kk h).1; omega)).trans GB.out
      have c2 := (World.cell?_of_block (a := ⟨gl, k, none⟩) (eb _ hgN (fun kk h => (HV.out.2 kk h).2.2))).trans c1
      have hgN5 : gl < w5.heap.size := UN.2
      have HV' := Lib.hid (Vecs.snoc rfl hown')
      have HA' : Hid (Apart v' w3.heap.size (w3.heap.size + 1) gl) := by
        intro kk h
        rcases hat with h2 | h2
        · exact HV.out.2 kk (h2.symm.trans h)
        · rw [h] at h2
          have e : kk = wr.heap.size + 1 := by simpa using h2
          have := HV.out.2
          exact ⟨by omega, by omega, by omega⟩
      have HB5 : Below w.heap.size w w5 := ((hB.alloc hlt1 _).grown hgrow (by simp; omega) (fun kk h => by have := (hown.lt kk h).1; omega))
      have K7 := Lib.hid U7
      have K8 := Lib.hid U8
      have KN := Lib.hid UN
      have KB := Lib.hid UB
      obtain ⟨⟨c0, c1⟩, _, hs0⟩ := U7
      obtain ⟨⟨c3, c4⟩, _, hs1⟩ := U8
      have hs2 := hgN5
      have q1 : IntKind.i64.wrap (z * nx) = z * nx := by rw [IntKind.wrap_i64]; omega
      have q2 : IntKind.i64.wrap (z * nx - lx) = z * nx - lx := by rw [IntKind.wrap_i64]; omega
      have q3 : IntKind.i64.wrap (z * ny) = z * ny := by rw [IntKind.wrap_i64]; omega
      have q4 : IntKind.i64.wrap (z * ny - ly) = z * ny - ly := by rw [IntKind.wrap_i64]; omega
      clear hown hown' hgrow hat eb UN UB G7 G8 GN GB HV a70 a71 a72 a73 a80 a81 a82 a83 hB a74 a84
      go_upto_region 13 with fail
      go_cut [10] (fun s10 wx => ∃ g10 : Nat, s10 = .pointer (some ⟨g10, 0, none⟩) ∧ VecAt wx g10 (z * nx - lx) (z * ny - ly) ∧ w5.heap.size ≤ g10 ∧ Below w5.heap.size w5 wx)
      case first =>
        go_region_held3 (fun w' => w'.cell? ⟨w3.heap.size, 0, none⟩ = some (.int .i64 lx) ∧ w'.cell? ⟨w3.heap.size, 1, none⟩ = some (.int .i64 ly) ∧ w'.cell? ⟨w3.heap.size + 1, 0, none⟩ = some (.int .i64 nx) ∧ w'.cell? ⟨w3.heap.size + 1, 1, none⟩ = some (.int .i64 ny) ∧ w'.cell? ⟨gl, k, none⟩ = some (.int .i64 z) ∧ Below w5.heap.size w5 w')
          ((refine (fun hS => ⟨(hS.cell (p := ⟨w3.heap.size, 0, none⟩) hs0).trans c0, (hS.cell (p := ⟨w3.heap.size, 1, none⟩) hs0).trans c1, (hS.cell (p := ⟨w3.heap.size + 1, 0, none⟩) hs1).trans c3, (hS.cell (p := ⟨w3.heap.size + 1, 1, none⟩) hs1).trans c4, (hS.cell (p := ⟨gl, k, none⟩) hs2).trans c2, hS⟩) (?_ : Below w5.heap.size w5 _); first | (go_grown; done)))
          (fail)
        all_goals (go_wp2_with fail; go_meet)
        all_goals exact ⟨_, rfl, VecAt.new w5 _ _ _, Nat.le_refl _, by go_grown⟩
      case rest =>
        obtain ⟨W7, rfl⟩ : ∃ W7, W7 = wc := ⟨_, rfl⟩
        obtain ⟨g10, rfl, V10, hge, hB7⟩ := hcut
        have P7 := Lib.hid (K7.out.same (hB7.block _ hs0) hB7.size)
        have P8 := Lib.hid (K8.out.same (hB7.block _ hs1) hB7.size)
        have PN := Lib.hid (KN.out.same (hB7.block _ hs2) hB7.size)
        have PB := Lib.hid ((hB7.block w.heap.size (by omega)).trans KB.out)
        have HV7 := Lib.hid (HV'.out.below hB7)
        have hsz7 := hB7.size
        have hA7 : Below w.heap.size w W7 := belowTo HB5 hB7
        obtain ⟨⟨d0, d1⟩, ⟨d2, d3⟩, hs7⟩ := P7.out
        obtain ⟨⟨d4, d5⟩, ⟨d6, d7⟩, hs8⟩ := P8.out
        obtain ⟨⟨d8, d9⟩, _, hs10⟩ := V10
        have n1 : g10 ≠ w3.heap.size := by omega
        have n2 : g10 ≠ w3.heap.size + 1 := by omega
        have hw3 : w.heap.size ≤ w3.heap.size := by omega
        clear c0 c1 c2 c3 c4 hB7 K7 K8 KN KB HV' q1 q2 q3 q4 HB5
        go_wp2
        go_roundw
        case rel =>
          refine ⟨k + 1, done ++ [(nx, ny)], nx, ny, z * nx - lx, z * ny - ly, v', rfl, by go_num, by omega, (show BaseAt a b c d (L.drop (k + 1)) _ nx ny (z * nx - lx) (z * ny - ly) by rw [← EX.out, ← EY.out]; exact HNB.out), ⟨?_, HA'.out⟩, (P7.out.put nx ny).other (by omega) _ _, (P8.out.other (by omega) _ _).put _ _, ?_, ?_, by simp; omega, ?_⟩
          · exact (HV7.out.put (fun kk h => (HA'.out kk h).1) _ _).put (fun kk h => (HA'.out kk h).2.1) _ _
          · exact PN.out.same (by rw [heap_put _ _ (by omega), heap_put _ _ (by omega)]) (by simp)
          · show _ = _
            rw [heap_put _ _ (by omega), heap_put _ _ (by omega)]
            exact PB.out
          · exact (((hA7.setCell (p := ⟨w3.heap.size, 0, none⟩) hw3 _).setCell (p := ⟨w3.heap.size, 1, none⟩) hw3 _).setCell (p := ⟨w3.heap.size + 1, 0, none⟩) (show w.heap.size ≤ w3.heap.size + 1 by omega) _).setCell (p := ⟨w3.heap.size + 1, 1, none⟩) (show w.heap.size ≤ w3.heap.size + 1 by omega) _
        case measure => simp [intOf]; omega
    · have hkm : k = m := by omega
      have e0 : L.drop k = [] := List.drop_of_length_le (by have := HM.out; omega)
      have HB3 := HBA.out
      rw [e0] at HB3
      obtain ⟨f1, _, _⟩ := HE.out _ _ _ _ _ HB3
      have HF := Lib.hid f1
      have cb2 : wr.cell? ⟨w.heap.size, 2, none⟩ = some (.int .i64 c) := (World.cell?_of_block (a := ⟨w.heap.size, 2, none⟩) GB.out).trans HS2.out
      have cb3 : wr.cell? ⟨w.heap.size, 3, none⟩ = some (.int .i64 d) := (World.cell?_of_block (a := ⟨w.heap.size, 3, none⟩) GB.out).trans HS3.out
      have hwr : w.heap.size < wr.heap.size := by omega
      clear f1 HB3 HBA e0 G7 G8 GN GB
      go_wp2_with (at_builtin; refine wpList_append_own_at _ rfl _ _ 39 rfl w1.heap.size 26 i0 (.agg #[.int .i64 (0), .int .i64 (0)]) 2 16 Tryd.underlying39 hi hz0 hz1 hz2 rfl (by decide) _ _ _ rfl (hown.alloc _) ⟨wr.heap.size, 0, none⟩ 1 1 [.int .i64 c, .int .i64 d] rfl rfl ?c1 ?c2 ?c3 ?c4 ?c5 ?_)
      case c1 =>
        intro j u hj
        match j, hj with
        | 0, hj => simp at hj; subst hj; simp [Addr.add]
        | 1, hj => simp at hj; subst hj; simp [Addr.add]
      case c2 => intro u hu; simp at hu; rcases hu with rfl | rfl <;> rfl
      case c3 => unfold maxLen; omega
      case c4 => omega
      case c5 => simp; omega
      intro v' w5 hown' hgrow _ _
      have HB5 : Below w.heap.size w w5 := ((hB.alloc hlt1 _).grown hgrow (by simp; omega) (fun kk h => by have := (hown.lt kk h).1; omega))
      have HV5 := Lib.hid ((Vecs.snoc rfl hown').lower (Nat.le_of_lt hw13))
      clear hown hown' hgrow HV
      go_wp2
      go_returns
      refine ⟨_, rfl, ?_, HB5⟩
      rw [HF.out]
      exact HV5.out
end Go.Proofs.YtcieihbknfeddaaDoor

/- Lists of numbers that are asked: the program's check of a fraction. -/
namespace Go.Proofs.YtcieihbknfeddaaDoor
open Go.RowKit

def CheckPost (w : World) (l : List Int) (e : Ending) (w' : World) : Prop := ((lstB l = true ∧ e = .returned .nilIface) ∨ (lstB l = false ∧ IsNone e)) ∧ Below w.heap.size w w'
set_option maxHeartbeats 4000000 in
theorem fracCheck_any (v : Value) (l : List Int) (w : World) (h : ReadsInts w v l) :
    Calls Tryd.prog 206 #[v] w (CheckPost w l) := by
  obtain ⟨a, c, rfl, hm, hc⟩ := h
  cases hl : lenB l.length
  · have HL := Lib.hid (lst_long hl)
    rcases len_out hl with h0 | ⟨h1, h2⟩
    · rw [h0] at hc ⊢
      clear hl hm hc h0
      go_enter Tryd.func206, Tryd.ntmps206
      go_wp2
      go_returns
      exact ⟨.inr ⟨HL.out, ⟨_, rfl⟩⟩, Below.refl _ _⟩
    · have i1 : ((l.length : Int) == 0) = false := by simp; intro e; rw [e] at h1; simp at h1
      have i2 : (20 : Int) < (l.length : Int) := by omega
      generalize hn : l.length = n at *
      clear hl hm hc hn
      go_enter Tryd.func206, Tryd.ntmps206
      go_wp2
      go_returns
      exact ⟨.inr ⟨HL.out, ⟨_, rfl⟩⟩, Below.refl _ _⟩
  · obtain ⟨h1, h2⟩ := len_in hl
    obtain ⟨bb, off, rfl, hb, hcell⟩ := hc (by omega)
    have i1 : ((l.length : Int) == 0) = false := by simp; intro e; rw [e] at h1; simp at h1
    have i2 : (l.length : Int) ≤ 20 := by omega
    have HC := Lib.hid (fun j hj => hcell j hj)
    obtain ⟨n, hn⟩ : ∃ n, n = l.length := ⟨_, rfl⟩
    have HL : Hid (lenB l.length = true) := hl
    have HN : Hid (n = l.length) := hn
    rw [← hn] at i1 i2 h1 h2 ⊢
    clear hl hm hc hcell hn
    go_enter Tryd.func206, Tryd.ntmps206
    go_wp2
    go_loopw [17] (fun s wr => ∃ k : Nat, s = .int .i64 k ∧ k ≤ n ∧ Hid (∀ j, j < k → rngB (l[j]?.getD 0) = true) ∧ Below w.heap.size w wr) (fun s _ => n - (intOf s).toNat)
    case atStart => exact ⟨0, rfl, Nat.zero_le _, fun j hj => absurd hj (Nat.not_lt_zero _), Below.refl _ _⟩
    case round =>
      obtain ⟨k, rfl, hk, HR, hB⟩ := hrel
      by_cases hlt : k < n
      · have c1 : wr.cell? ⟨bb, off + k, none⟩ = some (.int .i64 (l[k]?.getD 0)) := (hB.cell (p := ⟨bb, off + k, none⟩) hb).trans (HC.out k (by have := HN.out; omega))
        have HK := Lib.hid (get_mem (l := l) (j := k) (by have := HN.out; omega))
        have hr : rngB (l[k]?.getD 0) = true → ∀ j, j < k + 1 → rngB (l[j]?.getD 0) = true := by
          intro h j hj
          by_cases he : j = k
          · subst he; exact h
          · exact HR.out j (by omega)
        have HR2 := Lib.hid hr
        clear hr HR
        generalize l[k]?.getD 0 = z at c1 HK HR2
        have j1 : (0 : Int) ≤ (k : Int) := by omega
        have j2 : (k : Int) < (n : Int) := by omega
        cases hz : rngB z
        · have HB := Lib.hid (lst_bad HK.out hz)
          rcases rngB_out hz with hz1 | ⟨hz1, hz2⟩
          all_goals
            clear hz
            go_wp2
            go_returns
            exact ⟨.inr ⟨HB.out, ⟨_, rfl⟩⟩, hB⟩
        · obtain ⟨hz1, hz2⟩ := rngB_in hz
          have HR3 := Lib.hid (HR2.out hz)
          clear hz HR2
          go_wp2
          go_roundw
          case rel => exact ⟨k + 1, by go_num, by omega, HR3, by go_grown⟩
          case measure => simp [intOf]; omega
      · have hkn : k = n := by omega
        subst hkn
        have HA := Lib.hid (lst_all HL.out (fun j hj => HR.out j (by have := HN.out; omega)))
        clear HR HC
        go_wp2
        go_returns
        exact ⟨.inl ⟨HA.out, rfl⟩, hB⟩
end Go.Proofs.YtcieihbknfeddaaDoor

/- slices.Backward over a fraction: the iterator's contract. -/
namespace Go.Proofs.YtcieihbknfeddaaDoor
open Go.RowKit Go.Shelf

attribute [local go_sem] Oper.semAt_some

/-- what a round is handed: a place and a number that a fraction may have -/
abbrev Elem := { x : Nat × Int // rngB x.2 = true }
/-- the k-th that comes: from the last place on -/
def elemAt (l : List Int) (h : ∀ b ∈ l, rngB b = true) (k : Nat) : Elem :=
  if hk : k < l.length then ⟨(l.length - 1 - k, l[l.length - 1 - k]'(by omega)), h _ (List.getElem_mem _)⟩ else ⟨(0, 2), by decide⟩
theorem elemAt_fst {l : List Int} {h : ∀ b ∈ l, rngB b = true} {k : Nat} (hk : k < l.length) : (elemAt l h k).1 = (l.length - 1 - k, l[l.length - 1 - k]?.getD 0) := by
  have h2 : l.length - 1 - k < l.length := by omega
  simp [elemAt, hk, h2]
def upTo {α : Type} (f : Nat → α) (k : Nat) : List α := (List.range k).map f
theorem upTo_succ {α : Type} (f : Nat → α) (k : Nat) : upTo f (k + 1) = upTo f k ++ [f k] := by simp [upTo, List.range_succ]
theorem upTo_len {α : Type} (f : Nat → α) (k : Nat) : (upTo f k).length = k := by simp [upTo]

/-- What a round keeps: all blocks below n₀, and the box of the slice that is ranged over. -/
def KeepBox (n₀ Bs : Nat) (A B : World) : Prop := Below n₀ A B ∧ (∀ v, A.cell? ⟨Bs, 0, none⟩ = some v → B.cell? ⟨Bs, 0, none⟩ = some v)
theorem KeepBox.refl (n₀ Bs : Nat) (A : World) : KeepBox n₀ Bs A A := ⟨Below.refl _ _, fun _ h => h⟩
theorem KeepBox.trans {n₀ Bs : Nat} {A B C : World} (h : KeepBox n₀ Bs A B) (k : KeepBox n₀ Bs B C) : KeepBox n₀ Bs A C := ⟨h.1.trans k.1, fun v e => k.2 v (h.2 v e)⟩
theorem KeepBox.put {n₀ Bs : Nat} {w : World} (hn : n₀ ≤ w.heap.size) (W : World) (l : Nat) (o o' : Obj) (hl : w.heap.size ≤ l) (h : W.heap[l]? = some o) (ho : o.isCells = false) (hw : o.isWalk = false) : KeepBox n₀ Bs W (W.putObj l o') :=
  ⟨belowK_b hn W l o o' hl h ho hw, fun _ hv => cell_kept hv (grownBy_putObj' W l o') (fun r e => by cases e; exact ⟨o, h, ho⟩)⟩
theorem KeepBox.set {n₀ Bs : Nat} {A B : World} (h : KeepBox n₀ Bs A B) {g : Nat} (v : Value) (hg : n₀ ≤ g) (hne : g ≠ Bs) : KeepBox n₀ Bs A (B.setCell ⟨g, 0, none⟩ v) :=
  ⟨h.1.setCell (p := ⟨g, 0, none⟩) hg v, fun u e => by rw [World.cell?_setCell_far _ _ _ _ hne]; exact h.2 u e⟩

end Go.Proofs.YtcieihbknfeddaaDoor

/- The whole base: the program's iterator. -/
namespace Go.Proofs.YtcieihbknfeddaaDoor
open Go.RowKit Go.Shelf

attribute [local go_sem] Oper.semAt_some

set_option maxHeartbeats 1000000 in
theorem times_big (x y n : Int) (w : World) (hx : -2000000000 ≤ x * n ∧ x * n ≤ 2000000000) (hy : -2000000000 ≤ y * n ∧ y * n ≤ 2000000000) :
    Calls Tryd.prog 157 #[.agg #[.int .i64 (x), .int .i64 (y)], .int .i64 n] w fun e w' => e = .returned (.agg #[.int .i64 (x * n), .int .i64 (y * n)]) ∧ Below w.heap.size w w' := by
  obtain ⟨_, _⟩ := hx
  obtain ⟨_, _⟩ := hy
  go_enter Tryd.func157, Tryd.ntmps157
  go_wp2
  go_returns
  exact ⟨rfl, by go_grown⟩
set_option maxHeartbeats 1000000 in
theorem plus_big (x1 y1 x2 y2 : Int) (w : World) (h1 : -1000 ≤ x1 ∧ x1 ≤ 1000) (h2 : -1000 ≤ y1 ∧ y1 ≤ 1000) (h3 : -2000000000 ≤ x2 ∧ x2 ≤ 2000000000) (h4 : -2000000000 ≤ y2 ∧ y2 ≤ 2000000000) :
    Calls Tryd.prog 133 #[.agg #[.int .i64 (x1), .int .i64 (y1)], .agg #[.int .i64 (x2), .int .i64 (y2)]] w fun e w' => e = .returned (.agg #[.int .i64 (x1 + x2), .int .i64 (y1 + y2)]) ∧ Below w.heap.size w w' := by
  obtain ⟨_, _⟩ := h1
  obtain ⟨_, _⟩ := h2
  obtain ⟨_, _⟩ := h3
  obtain ⟨_, _⟩ := h4
  go_enter Tryd.func133, Tryd.ntmps133
  go_wp2
  go_returns
  exact ⟨rfl, by go_grown⟩
set_option maxHeartbeats 1000000 in
theorem minus_big (x1 y1 x2 y2 : Int) (w : World) (h1 : -2000000000 ≤ x1 ∧ x1 ≤ 2000000000) (h2 : -2000000000 ≤ y1 ∧ y1 ≤ 2000000000) (h3 : -1000 ≤ x2 ∧ x2 ≤ 1000) (h4 : -1000 ≤ y2 ∧ y2 ≤ 1000) :
    Calls Tryd.prog 160 #[.agg #[.int .i64 (x1), .int .i64 (y1)], .agg #[.int .i64 (x2), .int .i64 (y2)]] w fun e w' => e = .returned (.agg #[.int .i64 (x1 - x2), .int .i64 (y1 - y2)]) ∧ Below w.heap.size w w' := by
  obtain ⟨_, _⟩ := h1
  obtain ⟨_, _⟩ := h2
  obtain ⟨_, _⟩ := h3
  obtain ⟨_, _⟩ := h4
  go_enter Tryd.func160, Tryd.ntmps160
  go_wp2
  go_returns
  exact ⟨rfl, by go_grown⟩

/-- a cone in block g -/
def ConeAt (W : World) (g : Nat) (a b c d : Int) : Prop := (W.cell? ⟨g, 0, none⟩ = some (.int .i64 a) ∧ W.cell? ⟨g, 1, none⟩ = some (.int .i64 b) ∧ W.cell? ⟨g, 2, none⟩ = some (.int .i64 c) ∧ W.cell? ⟨g, 3, none⟩ = some (.int .i64 d)) ∧ g < W.heap.size
theorem ConeAt.same {W W' : World} {g : Nat} {a b c d : Int} (h : ConeAt W g a b c d) (e : W'.heap[g]? = W.heap[g]?) (hs : W.heap.size ≤ W'.heap.size) : ConeAt W' g a b c d := by
  obtain ⟨⟨h1, h2, h3, h4⟩, h5⟩ := h
  exact ⟨⟨(World.cell?_of_block (a := ⟨g, 0, none⟩) e).trans h1, (World.cell?_of_block (a := ⟨g, 1, none⟩) e).trans h2, (World.cell?_of_block (a := ⟨g, 2, none⟩) e).trans h3, (World.cell?_of_block (a := ⟨g, 3, none⟩) e).trans h4⟩, Nat.lt_of_lt_of_le h5 hs⟩

set_option linter.unusedSimpArgs false in
set_option maxRecDepth 100000 in
set_option maxHeartbeats 8000000 in
theorem base_seq (n : Nat) (hn : 1 ≤ n) (Bs : Nat) (a b c d : Int) (h : coneB a b c d = true) (w : World) (hc : ConeAt w Bs a b c d) :
    PrivSeq n Tryd.prog 156 #[.pointer (some ⟨Bs, 0, none⟩)] (fun x : Int × Int => #[.agg #[.int .i64 (x.1), .int .i64 (x.2)]]) (fun xs => xs = baseL a b c d) (baseL a b c d).length Bs w := by
  intro l J W hW hJ hY h0
  obtain ⟨h1, _, h2, _, hp⟩ := cone_in h
  have hp' := posB_true hp
  have hnb : (detZ a b c d == 0) = false := by simp; omega
  have hnn : ¬ detZ a b c d = 0 := by omega
  have hdn := det_sz h1 h2
  have hk := kindC_rng h
  obtain ⟨xa, xb⟩ := szs h1
  obtain ⟨xc, xd⟩ := szs h2
  have m1 := mul_bd2 (q := kindC a b c d) (a := a) ⟨hk.1, by omega⟩ xa
  have m2 := mul_bd2 (q := kindC a b c d) (a := b) ⟨hk.1, by omega⟩ xb
  have t1 : (c + a * kindC a b c d).tdiv (detZ a b c d) = baseX a b c d := by rw [← (base_tdiv h).1, Int.mul_comm a, Int.add_comm]
  have t2 : (d + b * kindC a b c d).tdiv (detZ a b c d) = baseY a b c d := by rw [← (base_tdiv h).2, Int.mul_comm b, Int.add_comm]
  rw [Int.mul_comm] at m1 m2
  have HS := Lib.hid (baseAt_start h)
  have hXY : (-1000 ≤ baseX a b c d ∧ baseX a b c d ≤ 1000) ∧ (-1000 ≤ baseY a b c d ∧ baseY a b c d ≤ 1000) := by
    obtain ⟨_, _, _, _, _, _, _, _, _, _, _, q1, q2⟩ := baseAt_start h
    exact ⟨q1, q2⟩
  have HX := Lib.hid (fun z l done lx ly nx ny hb => baseAt_next (z := z) (l := l) (done := done) (lx := lx) (ly := ly) (nx := nx) (ny := ny) h hb)
  have HE := Lib.hid (fun done lx ly nx ny hb => baseAt_end (a := a) (b := b) (c := c) (d := d) (done := done) (lx := lx) (ly := ly) (nx := nx) (ny := ny) hb)
  have HF := Lib.hid (fun w' => coneFractionM_any a b c d w' h)
  have HK := Lib.hid (fun w' => kind_any a b c d w' h)
  have HD := Lib.hid (fun w' => index_any a b c d w' h1 h2)
  have HT := Lib.hid (fun w' => times_big a b (kindC a b c d) w' m1 m2)
  have HP := Lib.hid (fun w' => plus_big c d (a * kindC a b c d) (b * kindC a b c d) w' xc xd m1 m2)
  have HLn := Lib.hid (fracC_len h)
  have HY := Lib.hid hY
  have HJ := Lib.hid hJ
  have H0 := Lib.hid h0
  have hcW := hc.same (hW.block Bs hc.2) hW.size
  obtain ⟨⟨c0, c1, c2, c3⟩, hs0⟩ := hcW
  generalize hN : detZ a b c d = N at *
  generalize kindC a b c d = K at *
  generalize fracC a b c d = L at *
  generalize baseX a b c d = X0 at *
  generalize baseY a b c d = Y0 at *
  generalize hBL : baseL a b c d = BL at *
  obtain ⟨⟨_, _⟩, _, _⟩ := hXY
  obtain ⟨_, _⟩ := hdn
  obtain ⟨_, _⟩ := hk
  obtain ⟨_, _⟩ := m1
  obtain ⟨_, _⟩ := m2
  have HBL := Lib.hid hBL
  have q1 : IntKind.i64.wrap X0 = X0 := by rw [IntKind.wrap_i64]; omega
  have q2 : IntKind.i64.wrap Y0 = Y0 := by rw [IntKind.wrap_i64]; omega
  clear h hp hN hY hJ h0 hBL hc
  refine callsIn_of_wp Tryd.func156 rfl trivial ?_ rfl
  simp only [Tryd.ntmps156, List.size_toArray, List.length_cons, List.length_nil, Nat.reduceAdd, Nat.reduceSub, Array.replicate_succ, Array.replicate_zero, List.push_toArray, List.append_toArray, List.nil_append, List.cons_append]
  gi_wp2_with fail
  refine ⟨trivial, ?_⟩
  refine CallsIn.mono (callsIn_wide.2 (HD.out _)) ?_
  rintro e V1 ⟨rfl, hb1⟩
  have A1 := hb1
  replace c0 := (hb1.cell (p := ⟨Bs, 0, none⟩) hs0).trans c0
  replace c1 := (hb1.cell (p := ⟨Bs, 1, none⟩) hs0).trans c1
  replace c2 := (hb1.cell (p := ⟨Bs, 2, none⟩) hs0).trans c2
  replace c3 := (hb1.cell (p := ⟨Bs, 3, none⟩) hs0).trans c3
  replace hs0 := Nat.lt_of_lt_of_le hs0 hb1.size
  clear hb1
  gi_upto_region 1 with fail
  refine wpIn_wide.2 ?_
  go_cut [4] (fun s4 wx => ∃ g4 : Nat, s4 = .pointer (some ⟨g4, 0, none⟩) ∧ VecAt wx g4 (c + a * K) (d + b * K) ∧ Below V1.heap.size V1 wx)
  case first =>
    go_region_held3 (fun w' => w'.cell? ⟨Bs, 0, none⟩ = some (.int .i64 (a)) ∧ w'.cell? ⟨Bs, 1, none⟩ = some (.int .i64 (b)) ∧ w'.cell? ⟨Bs, 2, none⟩ = some (.int .i64 (c)) ∧ w'.cell? ⟨Bs, 3, none⟩ = some (.int .i64 (d)) ∧ Below V1.heap.size V1 w') ((refine (fun hS => ⟨(hS.cell (p := ⟨Bs, 0, none⟩) hs0).trans c0, (hS.cell (p := ⟨Bs, 1, none⟩) hs0).trans c1, (hS.cell (p := ⟨Bs, 2, none⟩) hs0).trans c2, (hS.cell (p := ⟨Bs, 3, none⟩) hs0).trans c3, hS⟩) (?_ : Below V1.heap.size V1 _); first | (go_grown; done))) (first | (go_at_call 158; go_call (HK.out _) as e w1 ⟨rfl, hb0⟩; have hT : Below V1.heap.size V1 w1 := belowTo (by go_split_ands; assumption) hb0; have hTs := hT.size; (first | have hb1 := belowTo (by assumption) hb0 | have hb1 := hb0); obtain ⟨hc1, hf1⟩ := bcell hb1; have hz1 := bsize hb1; have hbs := hb0.size; (try simp only [World.size_alloc, World.size_drew, Nat.add_one_le_iff] at hbs); (try have t1 : V1.heap.size < w1.heap.size := (by omega)); (try have t2 : ¬ V1.heap.size = w1.heap.size := (by omega)); (try have t3 : ¬ w1.heap.size = V1.heap.size := (by omega))) | (go_at_call 157; go_call (HT.out _) as e w1 ⟨rfl, hb0⟩; have hT : Below V1.heap.size V1 w1 := belowTo (by go_split_ands; assumption) hb0; have hTs := hT.size; (first | have hb1 := belowTo (by assumption) hb0 | have hb1 := hb0); obtain ⟨hc1, hf1⟩ := bcell hb1; have hz1 := bsize hb1; have hbs := hb0.size; (try simp only [World.size_alloc, World.size_drew, Nat.add_one_le_iff] at hbs); (try have t1 : V1.heap.size < w1.heap.size := (by omega)); (try have t2 : ¬ V1.heap.size = w1.heap.size := (by omega)); (try have t3 : ¬ w1.heap.size = V1.heap.size := (by omega))) | (go_at_call 133; go_call (HP.out _) as e w1 ⟨rfl, hb0⟩; have hT : Below V1.heap.size V1 w1 := belowTo (by go_split_ands; assumption) hb0; have hTs := hT.size; (first | have hb1 := belowTo (by assumption) hb0 | have hb1 := hb0); obtain ⟨hc1, hf1⟩ := bcell hb1; have hz1 := bsize hb1; have hbs := hb0.size; (try simp only [World.size_alloc, World.size_drew, Nat.add_one_le_iff] at hbs); (try have t1 : V1.heap.size < w1.heap.size := (by omega)); (try have t2 : ¬ V1.heap.size = w1.heap.size := (by omega)); (try have t3 : ¬ w1.heap.size = V1.heap.size := (by omega))))
    all_goals (go_wp2_with fail; go_meet)
    all_goals exact ⟨_, rfl, ⟨⟨by first | (go_cell; done) | (simp; done) | (simp [*]; done), by first | (go_cell; done) | (simp; done) | (simp [*]; done)⟩, ⟨by first | (go_cell; done) | (simp; done) | (simp [*]; done), by first | (go_cell; done) | (simp; done) | (simp [*]; done)⟩, by first | (go_size; done) | (simp [*]; done) | (simp; omega)⟩, by go_grown⟩
  case rest =>
    obtain ⟨V2, rfl⟩ : ∃ V2, V2 = wc := ⟨_, rfl⟩
    obtain ⟨g4, rfl, ⟨⟨e0, e1⟩, _, hs1⟩, B2⟩ := hcut
    have A2 : Below W.heap.size W V2 := belowTo A1 B2
    replace c0 := (B2.cell (p := ⟨Bs, 0, none⟩) hs0).trans c0
    replace c1 := (B2.cell (p := ⟨Bs, 1, none⟩) hs0).trans c1
    have z2 := (B2.cell (p := ⟨Bs, 2, none⟩) hs0).trans c2
    have z3 := (B2.cell (p := ⟨Bs, 3, none⟩) hs0).trans c3
    have c2 := e0
    have c3 := e1
    replace hs0 := Nat.lt_of_lt_of_le hs0 B2.size
    clear e0 e1 B2 A1
    gi_upto_region 2 with fail
    refine wpIn_wide.2 ?_
    go_cut [5, 6] (fun s5 s6 wx => ∃ g5 g6 : Nat, s5 = .pointer (some ⟨g5, 0, none⟩) ∧ s6 = .pointer (some ⟨g6, 0, none⟩) ∧ VecAt wx g5 a b ∧ VecAt wx g6 X0 Y0 ∧ g5 ≠ g6 ∧ V2.heap.size ≤ g5 ∧ V2.heap.size ≤ g6 ∧ Below V2.heap.size V2 wx)
    case first =>
      go_region_held3 (fun w' => w'.cell? ⟨Bs, 0, none⟩ = some (.int .i64 (a)) ∧ w'.cell? ⟨Bs, 1, none⟩ = some (.int .i64 (b)) ∧ w'.cell? ⟨g4, 0, none⟩ = some (.int .i64 (c + a * K)) ∧ w'.cell? ⟨g4, 1, none⟩ = some (.int .i64 (d + b * K)) ∧ Below V2.heap.size V2 w') ((refine (fun hS => ⟨(hS.cell (p := ⟨Bs, 0, none⟩) hs0).trans c0, (hS.cell (p := ⟨Bs, 1, none⟩) hs0).trans c1, (hS.cell (p := ⟨g4, 0, none⟩) hs1).trans c2, (hS.cell (p := ⟨g4, 1, none⟩) hs1).trans c3, hS⟩) (?_ : Below V2.heap.size V2 _); first | (go_grown; done))) (first | (go_at_call 158; go_call (HK.out _) as e w1 ⟨rfl, hb0⟩; have hT : Below V2.heap.size V2 w1 := belowTo (by go_split_ands; assumption) hb0; have hTs := hT.size; (first | have hb1 := belowTo (by assumption) hb0 | have hb1 := hb0); obtain ⟨hc1, hf1⟩ := bcell hb1; have hz1 := bsize hb1; have hbs := hb0.size; (try simp only [World.size_alloc, World.size_drew, Nat.add_one_le_iff] at hbs); (try have t1 : V2.heap.size < w1.heap.size := (by omega)); (try have t2 : ¬ V2.heap.size = w1.heap.size := (by omega)); (try have t3 : ¬ w1.heap.size = V2.heap.size := (by omega))))
      all_goals (go_wp2_with fail; go_meet)
      all_goals exact ⟨_, _, rfl, rfl, ⟨⟨by first | (go_cell; done) | (simp; done) | (simp [*]; done), by first | (go_cell; done) | (simp; done) | (simp [*]; done)⟩, ⟨by first | (go_cell; done) | (simp; done) | (simp [*]; done), by first | (go_cell; done) | (simp; done) | (simp [*]; done)⟩, by first | (go_size; done) | (simp [*]; done) | (simp; omega)⟩, ⟨⟨by first | (go_cell; done) | (simp; done) | (simp [*]; done), by first | (go_cell; done) | (simp; done) | (simp [*]; done)⟩, ⟨by first | (go_cell; done) | (simp; done) | (simp [*]; done), by first | (go_cell; done) | (simp; done) | (simp [*]; done)⟩, by first | (go_size; done) | (simp [*]; done) | (simp; omega)⟩, by first | omega | simp, by first | omega | simp, by first | omega | simp, by go_grown⟩
    case rest =>
      obtain ⟨V5, rfl⟩ : ∃ V5, V5 = wc := ⟨_, rfl⟩
      obtain ⟨g5, g6, rfl, rfl, P5, P6, hne, hg5, hg6, B5⟩ := hcut
      have A5 : Below W.heap.size W V5 := belowTo A2 B5
      have K5 := Lib.hid P5
      have K6 := Lib.hid P6
      have hC5 : Hid (ConeAt V5 Bs a b c d) := ⟨⟨(B5.cell (p := ⟨Bs, 0, none⟩) hs0).trans c0, (B5.cell (p := ⟨Bs, 1, none⟩) hs0).trans c1, (B5.cell (p := ⟨Bs, 2, none⟩) hs0).trans z2, (B5.cell (p := ⟨Bs, 3, none⟩) hs0).trans z3⟩, Nat.lt_of_lt_of_le hs0 B5.size⟩
      have hWV2 := A2.size
      obtain ⟨⟨k50, k51⟩, _, hl5⟩ := P5
      have hl6 := P6.2.2
      clear B5 A2 c0 c1 c2 c3 z2 z3 P6
      have HJ5 : Hid (J (fun k => W.heap.size ≤ k ∧ k < V5.heap.size) [] V5) := HJ.out.less _ _ _ _ (HJ.out.grows _ _ _ _ H0.out (grown_of_below A5 none)) (fun k hk => hk.1)
      have hlen0 : ([] : List (Int × Int)).length < BL.length := by rw [← HBL.out]; simp [baseL]
      obtain ⟨fn, tmps, assign, body, hy, hR⟩ := HY.out _ [] (a, b) V5 HJ5.out (fun k hk => hk.2) hlen0
      dsimp only at hy
      gi_wp2
      refine hR.mono ?_
      rintro e V6 ⟨rfl, hJ6, hk6⟩
      have HJ6 : Hid (J (fun k => W.heap.size ≤ k ∧ k < V5.heap.size) [(a, b)] V6) := hJ6
      have L5 := Lib.hid (K5.out.same (hk6.1 g5 ⟨by omega, hl5⟩) hk6.2.2)
      have L6 := Lib.hid (K6.out.same (hk6.1 g6 ⟨by omega, hl6⟩) hk6.2.2)
      have hC6 := Lib.hid (hC5.out.same hk6.2.1 hk6.2.2)
      have hs6 := hk6.2.2
      obtain ⟨⟨u0, u1, u2, u3⟩, u4⟩ := hC6.out
      clear hJ6 hk6 K5 K6 hC5 HJ5 hy hR k50 k51
      gi_wp2_with fail
      refine ⟨trivial, ?_⟩
      refine CallsIn.mono (callsIn_wide.2 (HF.out _)) ?_
      rintro e V7 ⟨v, rfl, I7, hb7⟩
      have G5 := Lib.hid (L5.out.same (hb7.block g5 L5.out.2.2) hb7.size)
      have G6 := Lib.hid (L6.out.same (hb7.block g6 L6.out.2.2) hb7.size)
      have hlt5 := L5.out.2.2
      have hlt6 := L6.out.2.2
      have hs7 := hb7.size
      have HJ7 : Hid (J (fun k => (W.heap.size ≤ k ∧ k < V5.heap.size) ∨ (V6.heap.size ≤ k ∧ k < V7.heap.size)) [(a, b)] V7) :=
        HJ.out.less _ _ _ _ (HJ.out.grows _ _ _ _ (HJ.out.fresh _ _ _ HJ6.out) (grown_of_below hb7 none)) (fun k hk => hk.imp id And.left)
      have hC7 := Lib.hid (hC6.out.same (hb7.block Bs u4) hb7.size)
      obtain ⟨m, hm⟩ : ∃ m, m = L.length := ⟨_, rfl⟩
      have HM := Lib.hid hm
      have hm2 : m ≤ 2000000 := by rw [hm]; exact HLn.out
      clear L5 L6 hb7 HJ6 hC6 u0 u1 u2 u3 HF HLn
      -- where the list lies
      obtain ⟨gl, cl, av, rfl, HNL⟩ : ∃ (gl cl : Nat) (av : Option Addr), v = .slice av m cl ∧ Hid ((L ≠ [] → av = some ⟨gl, 0, none⟩ ∧ V6.heap.size ≤ gl) ∧ (L ≠ [] → NumsAt V7 gl L)) := by
        rcases I7.form with ⟨h0, a0, c0, rfl⟩ | ⟨_, gl, cl, rfl, hgl, hgls, _⟩
        · exact ⟨0, c0, a0, by rw [hm, h0]; rfl, fun hne => absurd h0 hne, fun hne => absurd h0 hne⟩
        · exact ⟨gl, cl, _, by rw [hm], fun _ => ⟨rfl, hgl⟩, fun _ => ⟨fun j hj => I7.cell j hj, hgls⟩⟩
      clear I7 hm
      gi_wp2_with fail
      gi_loopw [37] (fun s wr => ∃ (k : Nat) (done : List (Int × Int)) (lx ly nx ny : Int), s = .int .i64 k ∧ k ≤ m ∧ Hid (BaseAt a b c d (L.drop k) done lx ly nx ny) ∧ Hid (VecAt wr g5 lx ly) ∧ Hid (VecAt wr g6 nx ny) ∧ Hid (L ≠ [] → NumsAt wr gl L) ∧ Hid (J (fun k => (W.heap.size ≤ k ∧ k < V5.heap.size) ∨ (V6.heap.size ≤ k ∧ k < V7.heap.size)) done wr) ∧ V7.heap.size ≤ wr.heap.size) (fun s _ => m - (intOf s).toNat)
      case atStart => exact ⟨0, [(a, b)], a, b, X0, Y0, rfl, Nat.zero_le _, HS, G5, G6, HNL.out.2, HJ7, Nat.le_refl _⟩
      case round =>
        obtain ⟨k, done, lx, ly, nx, ny, rfl, hk, HBA, P5, P6, PN, PJ, hsz⟩ := hrel
        clear G5 G6 HJ7 HS hC7
        obtain ⟨⟨a60, a61⟩, _, a64⟩ := P6.out
        have hXs : ∀ k, ((W.heap.size ≤ k ∧ k < V5.heap.size) ∨ (V6.heap.size ≤ k ∧ k < V7.heap.size)) → k < wr.heap.size := fun k hk => by omega
        have hdl : done.length < BL.length := by
          obtain ⟨_, _, _, e2, _⟩ := HBA.out
          rw [← HBL.out, e2, List.length_append, baseZ_len]
          omega
        by_cases hlt : k < m
        · have hkL : k < L.length := by have := HM.out; omega
          have hLne : L ≠ [] := fun e => by rw [e] at hkL; simp at hkL
          obtain ⟨rfl, hgl⟩ := HNL.out.1 hLne
          have HDr := Lib.hid (drop_get hkL)
          have hN := PN.out hLne
          have r1 := hN.1 k hkL
          have hgl2 := (HNL.out.2 hLne).2
          have HB2 := HBA.out
          rw [HDr.out] at HB2
          obtain ⟨hb', p0, p1, z0, z1⟩ := HX.out _ _ _ _ _ _ _ HB2
          have HNB := Lib.hid hb'
          have hbd : (-1000 ≤ lx ∧ lx ≤ 1000) ∧ (-1000 ≤ ly ∧ ly ≤ 1000) := by
            obtain ⟨_, _, _, _, _, _, _, _, _, b1, b2, _, _⟩ := HBA.out
            exact ⟨b1, b2⟩
          obtain ⟨bx, by'⟩ := hbd
          obtain ⟨fn, tmps, assign, body, hy, hR⟩ := HY.out _ done (nx, ny) wr PJ.out hXs hdl
          dsimp only at hy
          clear hb' HB2 HBA
          generalize L[k]?.getD 0 = z at *
          have HTT := Lib.hid (fun w' => times_big nx ny z w' p0 p1)
          have HMM := Lib.hid (fun w' => minus_big (nx * z) (ny * z) lx ly w' p0 p1 bx by')
          have j1 : (0 : Int) ≤ (k : Int) := by omega
          have j2 : (k : Int) < (m : Int) := by omega
          gi_wp2
          refine hR.mono ?_
          rintro e V8 ⟨rfl, hJ8, hk8⟩
          have HJ8 := Lib.hid hJ8
          have R5 := Lib.hid (P5.out.same (hk8.1 g5 (.inl ⟨by omega, hl5⟩)) hk8.2.2)
          have R6 := Lib.hid (P6.out.same (hk8.1 g6 (.inl ⟨by omega, hl6⟩)) hk8.2.2)
          have RN := Lib.hid (hN.same (hk8.1 gl (.inr ⟨hgl, hgl2⟩)) hk8.2.2)
          have hs8 := hk8.2.2
          obtain ⟨⟨b50, b51⟩, ⟨b52, b53⟩, b54⟩ := R5.out
          obtain ⟨⟨b60, b61⟩, ⟨b62, b63⟩, b64⟩ := R6.out
          have hB8 : Below W.heap.size V8 V8 := Below.refl _ _
          have hWg5 : W.heap.size ≤ g5 := by omega
          have hWg6 : W.heap.size ≤ g6 := by omega
          have hW8 : W.heap.size ≤ V8.heap.size := by omega
          clear hy hR hJ8 hk8 P5 P6 PN PJ a60 a61 r1 hN q1 q2
          gi_upto_region 8 with fail
          refine wpIn_wide.2 ?_
          have hB80 : Below V8.heap.size V8 V8 := Below.refl _ _
          have hB80 : Below V8.heap.size V8 V8 := Below.refl _ _
          go_region_with (first | (go_at_call 157; go_call (HTT.out _) as e w1 ⟨rfl, hb0⟩; have q0 : w1.cell? ⟨g5, 0, none⟩ = some (.int .i64 lx) := (hb0.cell (p := ⟨g5, 0, none⟩) (by first | (with_reducible assumption) | (go_size; done) | (simp; omega))).trans (by first | (with_reducible assumption) | (go_keep; done) | (go_cell; done) | (go_simp; done) | (simp [*]; done)); have qf0 : w1.frozen? ⟨g5, 0, none⟩ = false := (hb0.frozen (p := ⟨g5, 0, none⟩) (by first | (with_reducible assumption) | (go_size; done) | (simp; omega))).trans (by first | (with_reducible assumption) | (go_keep; done) | (go_cell; done) | (go_simp; done) | (simp [*]; done)); have q1 : w1.cell? ⟨g5, 1, none⟩ = some (.int .i64 ly) := (hb0.cell (p := ⟨g5, 1, none⟩) (by first | (with_reducible assumption) | (go_size; done) | (simp; omega))).trans (by first | (with_reducible assumption) | (go_keep; done) | (go_cell; done) | (go_simp; done) | (simp [*]; done)); have qf1 : w1.frozen? ⟨g5, 1, none⟩ = false := (hb0.frozen (p := ⟨g5, 1, none⟩) (by first | (with_reducible assumption) | (go_size; done) | (simp; omega))).trans (by first | (with_reducible assumption) | (go_keep; done) | (go_cell; done) | (go_simp; done) | (simp [*]; done)); have q2 : w1.cell? ⟨g6, 0, none⟩ = some (.int .i64 nx) := (hb0.cell (p := ⟨g6, 0, none⟩) (by first | (with_reducible assumption) | (go_size; done) | (simp; omega))).trans (by first | (with_reducible assumption) | (go_keep; done) | (go_cell; done) | (go_simp; done) | (simp [*]; done)); have qf2 : w1.frozen? ⟨g6, 0, none⟩ = false := (hb0.frozen (p := ⟨g6, 0, none⟩) (by first | (with_reducible assumption) | (go_size; done) | (simp; omega))).trans (by first | (with_reducible assumption) | (go_keep; done) | (go_cell; done) | (go_simp; done) | (simp [*]; done)); have q3 : w1.cell? ⟨g6, 1, none⟩ = some (.int .i64 ny) := (hb0.cell (p := ⟨g6, 1, none⟩) (by first | (with_reducible assumption) | (go_size; done) | (simp; omega))).trans (by first | (with_reducible assumption) | (go_keep; done) | (go_cell; done) | (go_simp; done) | (simp [*]; done)); have qf3 : w1.frozen? ⟨g6, 1, none⟩ = false := (hb0.frozen (p := ⟨g6, 1, none⟩) (by first | (with_reducible assumption) | (go_size; done) | (simp; omega))).trans (by first | (with_reducible assumption) | (go_keep; done) | (go_cell; done) | (go_simp; done) | (simp [*]; done)); have hs0 : g5 < w1.heap.size := Nat.lt_of_lt_of_le (by first | (with_reducible assumption) | (go_size; done) | (simp; omega)) hb0.size; have hs1 : g6 < w1.heap.size := Nat.lt_of_lt_of_le (by first | (with_reducible assumption) | (go_size; done) | (simp; omega)) hb0.size; have hT2 : Below V8.heap.size V8 w1 := belowTo (by first | (with_reducible assumption) | (go_grown; done)) hb0; clear hb0) | (go_at_call 160; go_call (HMM.out _) as e w1 ⟨rfl, hb0⟩; have q0 : w1.cell? ⟨g5, 0, none⟩ = some (.int .i64 lx) := (hb0.cell (p := ⟨g5, 0, none⟩) (by first | (with_reducible assumption) | (go_size; done) | (simp; omega))).trans (by first | (with_reducible assumption) | (go_keep; done) | (go_cell; done) | (go_simp; done) | (simp [*]; done)); have qf0 : w1.frozen? ⟨g5, 0, none⟩ = false := (hb0.frozen (p := ⟨g5, 0, none⟩) (by first | (with_reducible assumption) | (go_size; done) | (simp; omega))).trans (by first | (with_reducible assumption) | (go_keep; done) | (go_cell; done) | (go_simp; done) | (simp [*]; done)); have q1 : w1.cell? ⟨g5, 1, none⟩ = some (.int .i64 ly) := (hb0.cell (p := ⟨g5, 1, none⟩) (by first | (with_reducible assumption) | (go_size; done) | (simp; omega))).trans (by first | (with_reducible assumption) | (go_keep; done) | (go_cell; done) | (go_simp; done) | (simp [*]; done)); have qf1 : w1.frozen? ⟨g5, 1, none⟩ = false := (hb0.frozen (p := ⟨g5, 1, none⟩) (by first | (with_reducible assumption) | (go_size; done) | (simp; omega))).trans (by first | (with_reducible assumption) | (go_keep; done) | (go_cell; done) | (go_simp; done) | (simp [*]; done)); have q2 : w1.cell? ⟨g6, 0, none⟩ = some (.int .i64 nx) := (hb0.cell (p := ⟨g6, 0, none⟩) (by first | (with_reducible assumption) | (go_size; done) | (simp; omega))).trans (by first | (with_reducible assumption) | (go_keep; done) | (go_cell; done) | (go_simp; done) | (simp [*]; done)); have qf2 : w1.frozen? ⟨g6, 0, none⟩ = false := (hb0.frozen (p := ⟨g6, 0, none⟩) (by first | (with_reducible assumption) | (go_size; done) | (simp; omega))).trans (by first | (with_reducible assumption) | (go_keep; done) | (go_cell; done) | (go_simp; done) | (simp [*]; done)); have q3 : w1.cell? ⟨g6, 1, none⟩ = some (.int .i64 ny) := (hb0.cell (p := ⟨g6, 1, none⟩) (by first | (with_reducible assumption) | (go_size; done) | (simp; omega))).trans (by first | (with_reducible assumption) | (go_keep; done) | (go_cell; done) | (go_simp; done) | (simp [*]; done)); have qf3 : w1.frozen? ⟨g6, 1, none⟩ = false := (hb0.frozen (p := ⟨g6, 1, none⟩) (by first | (with_reducible assumption) | (go_size; done) | (simp; omega))).trans (by first | (with_reducible assumption) | (go_keep; done) | (go_cell; done) | (go_simp; done) | (simp [*]; done)); have hs0 : g5 < w1.heap.size := Nat.lt_of_lt_of_le (by first | (with_reducible assumption) | (go_size; done) | (simp; omega)) hb0.size; have hs1 : g6 < w1.heap.size := Nat.lt_of_lt_of_le (by first | (with_reducible assumption) | (go_size; done) | (simp; omega)) hb0.size; have hT2 : Below V8.heap.size V8 w1 := belowTo (by first | (with_reducible assumption) | (go_grown; done)) hb0; clear hb0))
          all_goals gi_wp2
          all_goals go_roundw
          all_goals first
            | (show (_ : Nat) < _; simp [intOf]; omega)
            | (show (_ : Nat) < _; simp [intOf]; done)
            | skip
          all_goals
            have hT3 := hT2.size
            have hj : Hid (J (fun k => (W.heap.size ≤ k ∧ k < V5.heap.size) ∨ (V6.heap.size ≤ k ∧ k < V7.heap.size)) (done ++ [(nx, ny)]) w1) := HJ.out.grows _ _ _ _ HJ8.out (grown_of_below hT2 none)
            have hx5 : (W.heap.size ≤ g5 ∧ g5 < V5.heap.size) ∨ (V6.heap.size ≤ g5 ∧ g5 < V7.heap.size) := .inl ⟨hWg5, hl5⟩
            have hx6 : (W.heap.size ≤ g6 ∧ g6 < V5.heap.size) ∨ (V6.heap.size ≤ g6 ∧ g6 < V7.heap.size) := .inl ⟨hWg6, hl6⟩
            have T5 := R5.out.same (hT2.block g5 b54) hT2.size
            have T6 := R6.out.same (hT2.block g6 b64) hT2.size
            have TN := RN.out.same (hT2.block gl RN.out.2) hT2.size
            refine ⟨k + 1, done ++ [(nx, ny)], nx, ny, nx * z - lx, ny * z - ly, ?_, by omega, HNB, ?_, ?_, fun _ => ?_, ?_, ?_⟩
            · first | rfl | go_num
            · exact (T5.put nx ny).other hne _ _
            · exact (T6.other (Ne.symm hne) (.int .i64 nx) (.int .i64 ny)).put _ _
            · exact (TN.same (heap_put _ _ (fun e => by omega)) (by simp)).same (heap_put _ _ (fun e => by omega)) (by simp)
            · exact HJ.out.own _ _ _ _ _ _ (HJ.out.own _ _ _ _ _ _ (HJ.out.own _ _ _ _ _ _ (HJ.out.own _ _ _ _ _ _ hj hx5) hx5) hx6) hx6
            · simp; omega
        · have hL0 : L.drop k = [] := by
            have := HM.out
            rw [List.drop_eq_nil_iff]
            omega
          have HBA2 := HBA.out
          rw [hL0] at HBA2
          obtain ⟨e0, rfl, rfl⟩ := HE.out _ _ _ _ _ HBA2
          have HE0 := Lib.hid e0
          obtain ⟨fn, tmps, assign, body, hy, hR⟩ := HY.out _ done (nx, ny) wr PJ.out hXs hdl
          dsimp only at hy
          have j3 : ¬ (k : Int) < (m : Int) := by omega
          clear e0 HBA2
          gi_wp2_with fail
          refine hR.mono ?_
          rintro e V8 ⟨rfl, hJ8, hk8⟩
          have HJ8 := Lib.hid hJ8
          clear hy hR hJ8 hk8
          gi_wp2
          go_end0
          exact ⟨⟨_, rfl⟩, _, _, HE0.out.symm, HJ8.out⟩
end Go.Proofs.YtcieihbknfeddaaDoor

/- The whole base: what the range over the program's iterator keeps; the model's ConeBase. -/
namespace Go.Proofs.YtcieihbknfeddaaDoor
open Go.RowKit Go.Shelf

def gateV (b : Bool) (l : List (Int × Int)) : List (Int × Int) := if b then l else []
theorem gateV_len {b : Bool} {l : List (Int × Int)} {n : Nat} (h : b = true → l.length ≤ n) : (gateV b l).length ≤ n := by
  cases b
  · exact Nat.zero_le _
  · exact h rfl
theorem Vecs.at0 (w : World) (base : Nat) (g : Nat) (t : TypeId) (h : w.heap[g]? = some (.cells #[] t)) (hb : base ≤ g) (ht : t = 26) : Vecs w base (.slice (some ⟨g, 0, none⟩) 0 0) [] := by
  subst ht
  exact ⟨rfl, .inr ⟨g, 0, #[], rfl, hb, h, Nat.le_refl _, by decide, rfl, rfl⟩⟩
theorem Vecs.empty (w : World) : Vecs (w.alloc (.cells #[] 26)) w.heap.size (.slice (some ⟨w.heap.size, 0, none⟩) 0 0) [] :=
  Vecs.at0 _ _ _ _ (heap_alloc_new w _) (Nat.le_refl _) rfl
set_option maxHeartbeats 4000000 in
theorem l2Base_any (a b c d : Int) (w : World) (h : coneB a b c d = true) : Calls Tryd.prog 108 #[.agg #[.int .i64 (a), .int .i64 (b), .int .i64 (c), .int .i64 (d)]] w (GivesVecs w (baseL a b c d)) := by
  by_cases hd : detZ a b c d = 1
  · exact l2Base_one a b c d w h hd
  · exact l2Base_more a b c d w h hd
theorem grown_set (W : World) (g o : Nat) (v : Value) : W.grownBy (W.setCell ⟨g, o, none⟩ v) (some g) :=
  ⟨rfl, rfl, rfl, by simp, fun k _ hk => Below.heap_setCell W ⟨g, o, none⟩ v k (fun e => hk (by rw [e]))⟩
theorem Vecs.cells {w : World} {base : Nat} {v : Value} {l : List (Int × Int)} (h : Vecs w base v l) : ∀ k, v.ownBlock = some k → ∃ o, w.heap[k]? = some o ∧ o.isCells = true := by
  intro k hk
  rcases h.2 with ⟨rfl, _⟩ | ⟨g, cap, cur, rfl, _, h4, _⟩
  · cases hk
  · have e : g = k := by simpa [Value.ownBlock] using hk
    subst e
    exact ⟨_, h4, rfl⟩
/-- what the caller keeps: its list, in a block B of its own; the iterator's variables lie elsewhere; Bs holds the cone -/
def BaseI (w : World) (B Bs : Nat) (X : Nat → Prop) (pre : List (Int × Int)) (V : World) : Prop :=
  (∃ v, Boxed V B 39 v ∧ Vecs V w.heap.size v pre ∧ ∀ k, v.ownBlock = some k → ¬ X k ∧ k ≠ B ∧ k ≠ Bs) ∧ (∀ k, X k → w.heap.size ≤ k ∧ k ≠ B) ∧ Below w.heap.size w V
theorem baseI_abides (w : World) (B Bs : Nat) : Abides (BaseI w B Bs) where
  less := by
    rintro X Y pre A ⟨⟨v, h1, h2, h3⟩, h4, h5⟩ hY
    exact ⟨⟨v, h1, h2, fun k hk => ⟨fun hx => (h3 k hk).1 (hY k hx), (h3 k hk).2⟩⟩, fun k hk => h4 k (hY k hk), h5⟩
  fresh := by
    rintro X pre A ⟨⟨v, h1, h2, h3⟩, h4, h5⟩
    have hs := h5.size
    have hl := h1.lt
    refine ⟨⟨v, h1, h2, fun k hk => ⟨fun hx => ?_, (h3 k hk).2⟩⟩, fun k hk => ?_, h5⟩
    · rcases hx with hx | hx
      · exact (h3 k hk).1 hx
      · have := (h2.block k hk).2
        omega
    · rcases hk with hx | hx
      · exact h4 k hx
      · exact ⟨by omega, by omega⟩
  grows := by
    rintro X pre A A' ⟨⟨v, h1, h2, h3⟩, h4, h5⟩ hg
    exact ⟨⟨v, h1.kept hg (by simp), h2.far hg (fun k _ e => by cases e), h3⟩, h4, h5.grown hg h5.size (fun k e => by cases e)⟩
  own := by
    rintro X pre A g o u ⟨⟨v, h1, h2, h3⟩, h4, h5⟩ hx
    obtain ⟨hg, hne⟩ := h4 g hx
    have hgr := grown_set A g o u
    exact ⟨⟨v, h1.kept hgr (fun e => hne (by cases e; rfl)), h2.far hgr (fun k hk e => (h3 k hk).1 (by cases e; exact hx)), h3⟩, h4, h5.grown hgr h5.size (fun k e => by cases e; exact hg)⟩
theorem baseI_put {w : World} {B Bs : Nat} {X : Nat → Prop} {pre : List (Int × Int)} {A : World} {l : Nat} {o : Obj} (o' : Obj) (h : BaseI w B Bs X pre A) (hl : w.heap.size ≤ l) (ho : A.heap[l]? = some o) (hc : o.isCells = false) : BaseI w B Bs X pre (A.putObj l o') := by
  obtain ⟨⟨v, h1, h2, h3⟩, h4, h5⟩ := h
  have hgr := grownBy_putObj' A l o'
  refine ⟨⟨v, h1.kept hgr (fun e => ?_), h2.far hgr (fun k hk e => ?_), h3⟩, h4, h5.grown hgr h5.size (fun k e => by cases e; exact hl)⟩
  · cases e
    rw [show A.heap[B]? = _ from h1] at ho
    cases ho
    cases hc
  · cases e
    obtain ⟨o2, e2, hc2⟩ := h2.cells _ hk
    rw [e2] at ho
    cases ho
    rw [hc2] at hc
    cases hc
end Go.Proofs.YtcieihbknfeddaaDoor

/- The whole base: the program's ConeBase. -/
namespace Go.Proofs.YtcieihbknfeddaaDoor
open Go.RowKit Go.Shelf

attribute [local go_sem] Oper.semAt_some

set_option maxHeartbeats 1000000 in
theorem base_in (n : Nat) (a b c d : Int) (w : World) :
    CallsIn Fence.wide n Tryd.prog 138 #[.agg #[.int .i64 (a), .int .i64 (b), .int .i64 (c), .int .i64 (d)]] w fun e w' => e = .returned (.func (.func 156) #[] #[.pointer (some ⟨w.heap.size, 0, none⟩)]) ∧ w' = w.alloc (.cells #[.int .i64 a, .int .i64 b, .int .i64 c, .int .i64 d] 47) := by
  refine callsIn_of_wp Tryd.func138 rfl trivial ?_ rfl
  simp only [Tryd.ntmps138, List.size_toArray, List.length_cons, List.length_nil, Nat.reduceAdd, Nat.reduceSub, Array.replicate_succ, Array.replicate_zero, List.push_toArray, List.append_toArray, List.nil_append, List.cons_append]
  gi_wp2
  go_ret
  exact ⟨rfl, rfl⟩

end Go.Proofs.YtcieihbknfeddaaDoor

/- Resolutions: the program: the vectors of all whole bases. -/
namespace Go.Proofs.YtcieihbknfeddaaDoor
open Go.RowKit Go.Shelf

attribute [local go_sem] Oper.semAt_some

/-- what the range over the base of one cone keeps: the list, in box B; the ray, in box bl; the iterator's own blocks lie from M on -/
structure ResI (n0 M : Nat) (W0 : World) (B Bs bl : Nat) (pv : Value) (f : List V2 → List V2) (X : Nat → Prop) (pre : List V2) (V : World) : Prop where
  list : ∃ v, Boxed V B 39 v ∧ Vecs V n0 v (f pre) ∧ ∀ k, v.ownBlock = some k → ¬ X k ∧ k ≠ B ∧ k ≠ Bs ∧ k ≠ bl
  ray : Boxed V bl 99 pv
  own : ∀ k, X k → M ≤ k
  low : Below n0 W0 V
  keeps : KeepsOthers W0 V
  size : M ≤ V.heap.size
theorem resI_abides {n0 M : Nat} {W0 : World} {B Bs bl : Nat} {pv : Value} {f : List V2 → List V2} (hB : B < M) (hl : bl < M) (h0 : n0 ≤ M) : Abides (ResI n0 M W0 B Bs bl pv f) where
  less := by
    rintro X Y pre A ⟨⟨v, h1, h2, h3⟩, h4, h5, h6, h7, h8⟩ hY
    exact ⟨⟨v, h1, h2, fun k hk => ⟨fun hx => (h3 k hk).1 (hY k hx), (h3 k hk).2⟩⟩, h4, fun k hk => h5 k (hY k hk), h6, h7, h8⟩
  fresh := by
    rintro X pre A ⟨⟨v, h1, h2, h3⟩, h4, h5, h6, h7, h8⟩
    refine ⟨⟨v, h1, h2, fun k hk => ⟨fun hx => ?_, (h3 k hk).2⟩⟩, h4, fun k hk => ?_, h6, h7, h8⟩
    · rcases hx with hx | hx
      · exact (h3 k hk).1 hx
      · have := (h2.block k hk).2
        omega
    · rcases hk with hx | hx
      · exact h5 k hx
      · omega
  grows := by
    rintro X pre A A' ⟨⟨v, h1, h2, h3⟩, h4, h5, h6, h7, h8⟩ hg
    exact ⟨⟨v, h1.kept hg (by simp), h2.far hg (fun k _ e => by cases e), h3⟩, h4.kept hg (by simp), h5, h6.grown hg (by omega) (fun k e => by cases e), h7.trans (KeepsOthers.of_grownBy hg (fun _ _ e _ => by cases e)), Nat.le_trans h8 hg.size⟩
  own := by
    rintro X pre A g o u ⟨⟨v, h1, h2, h3⟩, h4, h5, h6, h7, h8⟩ hx
    have hg := h5 g hx
    have hgr := grown_set A g o u
    exact ⟨⟨v, h1.kept hgr (fun e => by cases e; omega), h2.far hgr (fun k hk e => (h3 k hk).1 (by cases e; exact hx)), h3⟩, h4.kept hgr (fun e => by cases e; omega), h5, h6.grown hgr (by omega) (fun k e => by cases e; omega), h7.trans (KeepsOthers.setCell _ _ _), Nat.le_trans h8 hgr.size⟩
theorem resI_put {n0 M : Nat} {W0 : World} {B Bs bl : Nat} {pv : Value} {f : List V2 → List V2} (h0 : n0 ≤ M) (hW : W0.heap.size ≤ M) {X : Nat → Prop} {pre : List V2} {A : World} {l : Nat} {o : Obj} (o' : Obj)
    (h : ResI n0 M W0 B Bs bl pv f X pre A) (hl : M ≤ l) (ho : A.heap[l]? = some o) (hc : o.isCells = false) : ResI n0 M W0 B Bs bl pv f X pre (A.putObj l o') := by
  obtain ⟨⟨v, h1, h2, h3⟩, h4, h5, h6, h7, h8⟩ := h
  have hgr := grownBy_putObj' A l o'
  refine ⟨⟨v, boxed_putObj h1 o' ho hc, Vecs.putObj h2 o' ho hc, h3⟩, boxed_putObj h4 o' ho hc, h5, h6.grown hgr (by omega) (fun k e => by cases e; omega), ⟨Nat.le_trans h7.size hgr.size, fun k ob hk hb => ?_⟩, Nat.le_trans h8 hgr.size⟩
  have hlt := (Array.getElem?_eq_some_iff.1 hk).1
  exact (heap_putObj_other _ (by omega)).trans (h7.same k ob hk hb)
theorem KeepsFrom.of {B : Nat} {W W' : World} (h : KeepsOthers W W') : KeepsFrom B W W' := h.from B

set_option linter.unusedSimpArgs false in
set_option maxRecDepth 100000 in
set_option maxHeartbeats 32000000 in
theorem resolved_in (n : Nat) (hn : 6 ≤ n) (base g : Nat) (ns : List Node) (w : World) (hF : FanAt w base g ns) (hm : ns.length ≤ 1000) (hC : ∀ i, conB (rays ns) i = true) :
    CallsIn Fence.wide n Tryd.prog 109 #[.pointer (some ⟨g, 0, none⟩)] w (GivesVecs w (resZ (rays ns))) := by
  have h1 : 1 ≤ n := by omega
  have h2' : 2 ≤ n := by omega
  have hd : 1 ≤ n - 1 - 1 := by omega
  have hd2 : 1 ≤ n - 1 - 1 - 1 := by omega
  have hR := hF.ring
  have hp := hR.pos
  have HCn := Lib.hid hC
  have HRL := Lib.hid (fun pre => resL_len hC pre)
  clear hC
  refine callsIn_of_wp_marks Tryd.func109 rfl trivial ?_ rfl
  simp only [Tryd.ntmps109, List.size_toArray, List.length_cons, List.length_nil, Nat.reduceAdd, Nat.reduceSub, Array.replicate_succ, Array.replicate_zero, List.push_toArray, List.append_toArray, List.nil_append, List.cons_append]
  gi_wp2_with fail
  refine ⟨trivial, ?_⟩
  refine CallsIn.mono (links_in _ g _) ?_
  rintro e w3 ⟨rfl, rfl⟩
  have hA : Below w.heap.size w ((w.alloc (.cells #[.slice none 0 0] 39)).alloc (.cells #[.pointer (some ⟨g, 0, none⟩)] 92)) := by go_grown
  have bB := (Boxed.new w 39 (.slice none 0 0)).alloc (.cells #[.pointer (some ⟨g, 0, none⟩)] 92)
  have bF := Boxed.new (w.alloc (.cells #[.slice none 0 0] 39)) 92 (.pointer (some ⟨g, 0, none⟩))
  have hz5 : ((w.alloc (.cells #[.slice none 0 0] 39)).alloc (.cells #[.pointer (some ⟨g, 0, none⟩)] 92)).heap.size = w.heap.size + 1 + 1 := by simp
  simp only [World.size_alloc] at bF
  have hF5 := hF.below hA
  gi_wp2_with fail
  generalize ((w.alloc (.cells #[.slice none 0 0] 39)).alloc (.cells #[.pointer (some ⟨g, 0, none⟩)] 92)) = W5 at *
  obtain ⟨i0, hi, hz0, hz1, hz2⟩ := info_parts infoVec
  have hlow : ∀ p ∈ ns, p.1 < w.heap.size := fun p hp => hR.mem_lt hp
  have hgd := guardV
  refine wpIn_rangeFunc_ownH rfl h1 (gf := 139) (lb := #[.pointer (some ⟨w.heap.size + 1, 0, none⟩)]) rfl trivial (enters_of Tryd.func139 (by kernel_rfl) rfl)
    (links_stops (n - 1) (by omega) (w.heap.size + 1) w.heap.size base g ns W5 bF.cell hA.size hF5 hlow hm) belowK_t (belowK_b hA.size) (Below.refl _ _) (fun _ => rfl)
    (VecsI w w.heap.size (resL (rays ns))) (fun _ _ _ => False) (vecsI_own _ _ _ (by omega)) (fun _ _ _ _ _ h _ _ => h) ⟨⟨_, bB, World.ownsRow_nil _ _ _ _, trivial⟩, hA⟩
    (fun x a' W => ∃ Bx, w.heap.size < Bx ∧ Boxed W Bx 99 (.pointer (some ⟨(cyc ns x).1, 0, none⟩)) ∧ a' = { tmps := #[.pointer (some ⟨g, 0, none⟩), undef, .slice none 0 0, .pointer (some ⟨w.heap.size, 0, none⟩), .pointer (some ⟨Bx, 0, none⟩), undef, .pointer (some ⟨g, 0, none⟩), .func (.func 139) #[] #[.pointer (some ⟨w.heap.size + 1, 0, none⟩)], .pointer (some ⟨(cyc ns x).1, 0, none⟩), undef, undef, undef, undef, undef, undef, undef, undef, undef, undef, undef, undef, undef, undef, undef, undef, undef, undef], defers := [] })
    (fun x a' _ X Y row hs hg hr => by obtain ⟨Bx, h1, h2, h3⟩ := hs; exact ⟨Bx, h1, boxed_own Bx 99 (fun (_ : Unit) => .pointer (some ⟨(cyc ns x).1, 0, none⟩)) () X Y row h2 hg (fun r e => (hr r e).2), h3⟩)
    ?assign ?body ?done ?stop
  case assign =>
    rintro l' pre x W K hI hK
    obtain ⟨⟨v, hv, hrow, _⟩, hb⟩ := hI
    gi_wp2
    exact hK _ _ ((KeepsOthers.alloc _ _).from _) ((Below.refl _ W).alloc hb.size _) ⟨⟨v, hv.alloc _, Vecs.below hrow ((Below.refl _ W).alloc (Nat.le_refl _) _), trivial⟩, hb.alloc hb.size _⟩ ⟨W.heap.size, hv.lt, Boxed.new W _ _, rfl⟩
  case body =>
    rintro l' pre x a' W hl' ⟨r, hr⟩ ⟨⟨v, hv, hrow, _⟩, hb⟩ ⟨Bx, hBx, bX, rfl⟩ hlen
    have hRW := hR.below hb
    have HCo := Lib.hid (linkCone_any ns x W hRW)
    have hcx := HCn.out x
    rw [con_rays hp] at hcx
    have hrs : resL (rays ns) (pre ++ [x]) = resL (rays ns) pre ++ (baseL (cyc ns x).2.1 (cyc ns x).2.2 (cyc ns (x + 1)).2.1 (cyc ns (x + 1)).2.2).filter (notV (cyc ns (x + 1)).2) := by
      rw [resL_snoc, rays_cyc hp, rays_cyc hp, base_filter hcx]
    have HRs := Lib.hid hrs
    clear hrs
    have HBl : Hid ((baseL (cyc ns x).2.1 (cyc ns x).2.2 (cyc ns (x + 1)).2.1 (cyc ns (x + 1)).2.2).length ≤ 2000002) := baseL_len hcx
    have HAl : Hid ((resL (rays ns) pre).length ≤ 2000002000) := by have := HRL.out pre; show _ ≤ _; omega
    have hL := hR.link x
    have hZ := hR.link (x + 1)
    generalize (cyc ns (x + 1)).1 = q2 at hL hZ
    generalize hq1 : (cyc ns x).1 = q1 at *
    generalize hz2' : (cyc ns (x + 1)).2 = z2 at *
    generalize (cyc ns x).2 = z1 at *
    obtain ⟨c, d⟩ := z2
    obtain ⟨a, b⟩ := z1
    dsimp only at HCo hcx HRs HBl
    have HS := Lib.hid (fun Bs W hc => base_seq (n - 1 - 1 - 1) (by omega) Bs a b c d hcx W hc)
    generalize baseL a b c d = BL at HS HRs HBl
    have bXc := bX.cell
    have bXl := bX.lt
    have kl := hv.lt
    have hsz := hb.size
    gi_wp2_with fail
    refine ⟨trivial, ?_⟩
    refine CallsIn.mono (CallsIn.inRound l' (callsIn_wide.2 HCo.out)) ?_
    rintro e w1 ⟨rfl, hb1⟩
    gi_wp2_with fail
    refine ⟨trivial, ?_⟩
    refine CallsIn.mono (CallsIn.inRound l' (base_in _ a b c d _)) ?_
    rintro e w2 ⟨rfl, rfl⟩
    have hb2 : Below W.heap.size W (w1.alloc (.cells #[.int .i64 a, .int .i64 b, .int .i64 c, .int .i64 d] 47)) := by have := hb1.size; go_grown
    have hr2 := (hb2.block l' (Array.getElem?_eq_some_iff.1 hr).1).trans hr
    have hc5 : ConeAt (w1.alloc (.cells #[.int .i64 a, .int .i64 b, .int .i64 c, .int .i64 d] 47)) w1.heap.size a b c d := by
      refine ⟨⟨?_, ?_, ?_, ?_⟩, ?_⟩ <;> simp
    have hs1 := hb1.size
    have hz6 : (w1.alloc (.cells #[.int .i64 a, .int .i64 b, .int .i64 c, .int .i64 d] 47)).heap.size = w1.heap.size + 1 := by simp
    obtain ⟨Bs, hBse⟩ : ∃ Bs, Bs = w1.heap.size := ⟨_, rfl⟩
    rw [← hBse] at hc5 hz6
    gi_wp2_with fail
    rw [← hBse]
    have hBsl : W.heap.size ≤ Bs := by omega
    clear hb1 HCo
    generalize (w1.alloc (.cells #[.int .i64 a, .int .i64 b, .int .i64 c, .int .i64 d] 47)) = W6 at *
    have hv6 : Boxed W6 w.heap.size 39 v := (hb2.block _ kl).trans hv
    have bX6 : Boxed W6 Bx 99 (.pointer (some ⟨q1, 0, none⟩)) := (hb2.block _ bXl).trans bX
    have hrow6 : Vecs W6 w.heap.size v (resL (rays ns) pre) := Vecs.below hrow hb2
    have hap : ∀ k, v.ownBlock = some k → ¬ W6.heap.size ≤ k ∧ k ≠ w.heap.size ∧ k ≠ Bs ∧ k ≠ Bx := fun k hk => by
      have h3 := World.ownsRow.lt hrow k hk
      have h4 : some w.heap.size ≠ v.ownBlock := hv.not_row (by decide) hrow
      have h5 : some Bx ≠ v.ownBlock := bX.not_row (by decide) hrow
      refine ⟨by omega, fun e => h4 (by rw [hk, e]), by omega, fun e => h5 (by rw [hk, e])⟩
    have hM1 : w.heap.size < W6.heap.size := by omega
    have hM2 : Bx < W6.heap.size := by omega
    have hM3 : Bs < W6.heap.size := by omega
    have hM4 : W.heap.size ≤ W6.heap.size := by omega
    have KO6 : KeepsOthers W W6 := KeepsOthers.of_grownBy (grown_of_below hb2 none) (fun _ _ e _ => by cases e)
    have HR0 := Lib.hid hR
    have hbW := Lib.hid hb
    generalize hacc : resL (rays ns) pre = acc at *
    have h0I : ResI w.heap.size W6.heap.size W w.heap.size Bs Bx (.pointer (some ⟨q1, 0, none⟩)) (fun q => acc ++ q.filter (notV (c, d))) (fun k => W6.heap.size ≤ k) [] W6 :=
      ⟨⟨v, hv6, by rw [show acc ++ ([] : List V2).filter (notV (c, d)) = acc by simp]; exact hrow6, hap⟩, bX6, fun k hk => hk, hb2.mono hsz, KO6, Nat.le_refl _⟩
    have HI0 := Lib.hid h0I
    clear h0I hv6 bX6 hrow6 hap KO6 hb2 hv bX hrow hb hBse bXc hacc hR bB bF hA hF5 hF hcx hr
    refine wpIn_rangePrivN hr2 hd (gf := 156) (lb := #[.pointer (some ⟨Bs, 0, none⟩)]) rfl (enters_of Tryd.func156 (by kernel_rfl) rfl) hM3 (HS.out Bs W6 hc5) (fun _ => rfl)
      (ResI w.heap.size W6.heap.size W w.heap.size Bs Bx (.pointer (some ⟨q1, 0, none⟩)) (fun q => acc ++ q.filter (notV (c, d)))) (resI_abides hM1 hM2 (by omega)) (fun X pre A l o o' hi hl ho hc => resI_put (by omega) hM4 o' hi hl ho hc)
      HI0.out
      (fun y bb => { tmps := #[.pointer (some ⟨g, 0, none⟩), undef, .slice none 0 0, .pointer (some ⟨w.heap.size, 0, none⟩), .pointer (some ⟨Bx, 0, none⟩), .pointer (some ⟨bb, 0, none⟩), .pointer (some ⟨g, 0, none⟩), .func (.func 139) #[] #[.pointer (some ⟨w.heap.size + 1, 0, none⟩)], .pointer (some ⟨q1, 0, none⟩), .pointer (some ⟨q1, 0, none⟩), .agg #[.int .i64 (a), .int .i64 (b), .int .i64 (c), .int .i64 (d)], .func (.func 156) #[] #[.pointer (some ⟨Bs, 0, none⟩)], .agg #[.int .i64 (y.1), .int .i64 (y.2)], undef, undef, undef, undef, undef, undef, undef, undef, undef, undef, undef, undef, undef, undef], defers := [] })
      (fun y => .cells #[.int .i64 y.1, .int .i64 y.2] 26) ?assign2 ?body2 ?done2
    case assign2 =>
      intro l2 y W' K hK
      gi_wp2
      exact hK
    case body2 =>
      rintro l2 X pre2 y V bk ⟨⟨v2, c4, hv2, hap⟩, bY, hX, hlowV, hkV, hsV⟩ hXV hbk hob hlen2
      have hbl : bk < V.heap.size := (Array.getElem?_eq_some_iff.1 hob).1
      have hbV : Below w.heap.size w V := hbW.out.trans hlowV
      have hL2 := (HR0.out.below hbV).link x
      have hZ2 := (HR0.out.below hbV).link (x + 1)
      rw [hq1] at hL2
      rw [hz2'] at hZ2
      generalize (cyc ns (x + 1)).1 = q3 at hL2 hZ2
      have k0 := hL2.c3
      have k1 := hZ2.c0
      have k2 := hZ2.c1
      dsimp only at k1 k2
      have k4 := c4.cell
      have f4 := c4.frozen
      have k5 := bY.cell
      have u0 : V.cell? ⟨bk, 0, none⟩ = some (.int .i64 y.1) := by simp [World.cell?, hob]
      have u1 : V.cell? ⟨bk, 1, none⟩ = some (.int .i64 y.2) := by simp [World.cell?, hob]
      obtain ⟨yx, yy⟩ := y
      dsimp only at u0 u1
      cases hnv : notV (c, d) (yx, yy)
      · have qe : ∀ w', (binOp .neq 26 (.agg #[.int .i64 (yx), .int .i64 (yy)]) (.agg #[.int .i64 (c), .int .i64 (d)])).run Tryd.prog w' = .ok (.bool false) w' := fun w' => by
          rw [run_neV]
          show Result.ok (Value.bool (notV (c, d) (yx, yy))) w' = _
          rw [hnv]
        have HFl : Hid ((pre2 ++ [(yx, yy)]).filter (notV (c, d)) = pre2.filter (notV (c, d))) := by
          show _ = _
          rw [List.filter_append]
          simp [hnv]
        clear hL2 hZ2
        gi_wp2
        refine region_round (by kernel_rfl) (noDefer_of (by kernel_rfl)) (by rintro ⟨_, _, h⟩; exact False.elim h) ?_
        refine wpAny_ready (rs := [0, 1]) (by kernel_rfl) (by simp) (AllReady.cons rfl (fun K hK => ?_) (AllReady.cons rfl (fun K hK => ?_) (AllReady.nil)))
        focus
          go_simp
          refine hK _ _ ?_
          clear hK K
          refine wpAny_ready (rs := [1]) (by kernel_rfl) (by simp) (AllReady.cons rfl (fun K hK => ?_) (AllReady.nil))
          go_simp
          refine hK _ _ ?_
          clear hK K
          refine wpAny_take (i := 2) (v := ?_) rfl (by kernel_rfl) (by kernel_rfl) (by kernel_rfl) (fun _ _ _ h => h) (Or.inl ⟨by rfl, ?_⟩) ?_
          rotate_left
          focus (intro w0; go_simp; try with_reducible rfl)
          refine wpAny_take (i := 3) (v := ?_) rfl (by kernel_rfl) (by kernel_rfl) (by kernel_rfl) (fun _ _ _ h => h) (Or.inl ⟨by rfl, ?_⟩) ?_
          rotate_left
          focus (intro w0; go_simp; try with_reducible rfl)
          refine wpAny_ready (rs := [4]) (by kernel_rfl) (by simp) (AllReady.cons rfl (fun K hK => ?_) (AllReady.nil))
          go_simp
          refine hK _ _ ?_
          clear hK K
          refine wpAny_take (i := 5) (v := ?_) rfl (by kernel_rfl) (by kernel_rfl) (by kernel_rfl) (fun _ _ _ h => h) (Or.inl ⟨by rfl, ?_⟩) ?_
          rotate_left
          focus (intro w0; go_simp; try with_reducible rfl)
          refine wpAny_take (i := 6) (v := ?_) rfl (by kernel_rfl) (by kernel_rfl) (by kernel_rfl) (fun _ _ _ h => h) (Or.inl ⟨by rfl, ?_⟩) ?_
          rotate_left
          focus (intro w0; go_simp; try with_reducible rfl)
          refine wpAny_ready (rs := [7]) (by kernel_rfl) (by simp) (AllReady.cons rfl (fun K hK => ?_) (AllReady.nil))
          go_simp
          refine hK _ _ ?_
          clear hK K
          refine wpAny_seq 8 rfl (by kernel_rfl) ?_
          simp only [List.drop_succ_cons, List.drop_zero]
        rotate_left 1
        focus
          go_simp
          refine hK _ _ ?_
          clear hK K
          refine wpAny_take (i := 2) (v := ?_) rfl (by kernel_rfl) (by kernel_rfl) (by kernel_rfl) (fun _ _ _ h => h) (Or.inl ⟨by rfl, ?_⟩) ?_
          rotate_left
          focus (intro w0; go_simp; try with_reducible rfl)
          refine wpAny_take (i := 3) (v := ?_) rfl (by kernel_rfl) (by kernel_rfl) (by kernel_rfl) (fun _ _ _ h => h) (Or.inl ⟨by rfl, ?_⟩) ?_
          rotate_left
          focus (intro w0; go_simp; try with_reducible rfl)
          refine wpAny_ready (rs := [0, 4]) (by kernel_rfl) (by simp) (AllReady.cons rfl (fun K hK => ?_) (AllReady.cons rfl (fun K hK => ?_) (AllReady.nil)))
          focus
            go_simp
            refine hK _ _ ?_
            clear hK K
            refine wpAny_ready (rs := [4]) (by kernel_rfl) (by simp) (AllReady.cons rfl (fun K hK => ?_) (AllReady.nil))
            go_simp
            refine hK _ _ ?_
            clear hK K
            refine wpAny_take (i := 5) (v := ?_) rfl (by kernel_rfl) (by kernel_rfl) (by kernel_rfl) (fun _ _ _ h => h) (Or.inl ⟨by rfl, ?_⟩) ?_
            rotate_left
            focus (intro w0; go_simp; try with_reducible rfl)
            refine wpAny_take (i := 6) (v := ?_) rfl (by kernel_rfl) (by kernel_rfl) (by kernel_rfl) (fun _ _ _ h => h) (Or.inl ⟨by rfl, ?_⟩) ?_
            rotate_left
            focus (intro w0; go_simp; try with_reducible rfl)
            refine wpAny_ready (rs := [7]) (by kernel_rfl) (by simp) (AllReady.cons rfl (fun K hK => ?_) (AllReady.nil))
            go_simp
            refine hK _ _ ?_
            clear hK K
            refine wpAny_seq 8 rfl (by kernel_rfl) ?_
            simp only [List.drop_succ_cons, List.drop_zero]
          rotate_left 1
          focus
            go_simp
            refine hK _ _ ?_
            clear hK K
            refine wpAny_take (i := 5) (v := ?_) rfl (by kernel_rfl) (by kernel_rfl) (by kernel_rfl) (fun _ _ _ h => h) (Or.inl ⟨by rfl, ?_⟩) ?_
            rotate_left
            focus (intro w0; go_simp; try with_reducible rfl)
            refine wpAny_take (i := 6) (v := ?_) rfl (by kernel_rfl) (by kernel_rfl) (by kernel_rfl) (fun _ _ _ h => h) (Or.inl ⟨by rfl, ?_⟩) ?_
            rotate_left
            focus (intro w0; go_simp; try with_reducible rfl)
            refine wpAny_ready (rs := [0, 7]) (by kernel_rfl) (by simp) (AllReady.cons rfl (fun K hK => ?_) (AllReady.cons rfl (fun K hK => ?_) (AllReady.nil)))
            focus
              go_simp
              refine hK _ _ ?_
              clear hK K
              refine wpAny_ready (rs := [7]) (by kernel_rfl) (by simp) (AllReady.cons rfl (fun K hK => ?_) (AllReady.nil))
              go_simp
              refine hK _ _ ?_
              clear hK K
              refine wpAny_seq 8 rfl (by kernel_rfl) ?_
              simp only [List.drop_succ_cons, List.drop_zero]
            rotate_left 1
            focus
              go_simp
              refine hK _ _ ?_
              clear hK K
              refine wpAny_ready (rs := [0]) (by kernel_rfl) (by simp) (AllReady.cons rfl (fun K hK => ?_) (AllReady.nil))
              go_simp
              refine hK _ _ ?_
              clear hK K
              refine wpAny_seq 8 rfl (by kernel_rfl) ?_
              simp only [List.drop_succ_cons, List.drop_zero]
        all_goals go_wp2
        all_goals gi_wp2
        all_goals exact ⟨⟨Nat.le_refl _, fun _ _ h _ => h⟩, ⟨fun _ _ => rfl, rfl, Nat.le_refl _⟩, ⟨⟨v2, c4, by rw [HFl.out]; exact hv2, hap⟩, bY, hX, hlowV.drew, ⟨hkV.size, hkV.same⟩, hsV⟩⟩
      · have qe : ∀ w', (binOp .neq 26 (.agg #[.int .i64 (yx), .int .i64 (yy)]) (.agg #[.int .i64 (c), .int .i64 (d)])).run Tryd.prog w' = .ok (.bool true) w' := fun w' => by
          rw [run_neV]
          show Result.ok (Value.bool (notV (c, d) (yx, yy))) w' = _
          rw [hnv]
        have HFl : Hid (acc ++ (pre2 ++ [(yx, yy)]).filter (notV (c, d)) = (acc ++ pre2.filter (notV (c, d))) ++ [(yx, yy)]) := by
          show _ = _
          rw [List.filter_append]
          simp [hnv]
        have hown : V.drew.ownsRow w.heap.size 26 2 v2 _ _ := hv2
        have hal2 : (acc ++ pre2.filter (notV (c, d))).length ≤ 2002002002 := by
          have h3 := HAl.out
          have h4 := HBl.out
          have h5 := List.length_filter_le (notV (c, d)) pre2
          rw [List.length_append]
          omega
        have hbd : Below w.heap.size w V.drew := hbV.drew
        have hbs := hbV.size
        have hsd : V.drew.heap.size = V.heap.size := rfl
        generalize acc ++ pre2.filter (notV (c, d)) = L2 at *
        have c4' : Boxed V.drew w.heap.size 39 v2 := c4
        have bY' : Boxed V.drew Bx 99 (.pointer (some ⟨q1, 0, none⟩)) := bY
        have hlt : ∀ k, v2.ownBlock = some k → k < V.heap.size := fun k hk => (hv2.block k hk).2
        have hcl : ∀ k, v2.ownBlock = some k → ∃ o, V.heap[k]? = some o ∧ o.isCells = true := hv2.cells
        have hblk : ∀ k, v2.ownBlock = some k → w.heap.size ≤ k := fun k hk => (hv2.block k hk).1
        have hV2 := Lib.hid hv2
        clear hL2 hZ2 hv2
        gi_wp2
        refine region_round (by kernel_rfl) (noDefer_of (by kernel_rfl)) (by rintro ⟨_, _, h⟩; exact False.elim h) ?_
        refine wpAny_ready (rs := [0, 1]) (by kernel_rfl) (by simp) (AllReady.cons rfl (fun K hK => ?_) (AllReady.cons rfl (fun K hK => ?_) (AllReady.nil)))
        focus
          go_simp
          refine hK _ _ ?_
          clear hK K
          refine wpAny_ready (rs := [1]) (by kernel_rfl) (by simp) (AllReady.cons rfl (fun K hK => ?_) (AllReady.nil))
          go_simp
          refine hK _ _ ?_
          clear hK K
          refine wpAny_take (i := 2) (v := ?_) rfl (by kernel_rfl) (by kernel_rfl) (by kernel_rfl) (fun _ _ _ h => h) (Or.inl ⟨by rfl, ?_⟩) ?_
          rotate_left
          focus (intro w0; go_simp; try with_reducible rfl)
          refine wpAny_take (i := 3) (v := ?_) rfl (by kernel_rfl) (by kernel_rfl) (by kernel_rfl) (fun _ _ _ h => h) (Or.inl ⟨by rfl, ?_⟩) ?_
          rotate_left
          focus (intro w0; go_simp; try with_reducible rfl)
          refine wpAny_ready (rs := [4]) (by kernel_rfl) (by simp) (AllReady.cons rfl (fun K hK => ?_) (AllReady.nil))
          go_simp
          refine hK _ _ ?_
          clear hK K
          refine wpAny_take (i := 5) (v := ?_) rfl (by kernel_rfl) (by kernel_rfl) (by kernel_rfl) (fun _ _ _ h => h) (Or.inl ⟨by rfl, ?_⟩) ?_
          rotate_left
          focus (intro w0; go_simp; try with_reducible rfl)
          refine wpAny_take (i := 6) (v := ?_) rfl (by kernel_rfl) (by kernel_rfl) (by kernel_rfl) (fun _ _ _ h => h) (Or.inl ⟨by rfl, ?_⟩) ?_
          rotate_left
          focus (intro w0; go_simp; try with_reducible rfl)
          refine wpAny_ready (rs := [7]) (by kernel_rfl) (by simp) (AllReady.cons rfl (fun K hK => ?_) (AllReady.nil))
          go_simp
          refine hK _ _ ?_
          clear hK K
          refine wpAny_seq 8 rfl (by kernel_rfl) ?_
          simp only [List.drop_succ_cons, List.drop_zero]
        rotate_left 1
        focus
          go_simp
          refine hK _ _ ?_
          clear hK K
          refine wpAny_take (i := 2) (v := ?_) rfl (by kernel_rfl) (by kernel_rfl) (by kernel_rfl) (fun _ _ _ h => h) (Or.inl ⟨by rfl, ?_⟩) ?_
          rotate_left
          focus (intro w0; go_simp; try with_reducible rfl)
          refine wpAny_take (i := 3) (v := ?_) rfl (by kernel_rfl) (by kernel_rfl) (by kernel_rfl) (fun _ _ _ h => h) (Or.inl ⟨by rfl, ?_⟩) ?_
          rotate_left
          focus (intro w0; go_simp; try with_reducible rfl)
          refine wpAny_ready (rs := [0, 4]) (by kernel_rfl) (by simp) (AllReady.cons rfl (fun K hK => ?_) (AllReady.cons rfl (fun K hK => ?_) (AllReady.nil)))
          focus
            go_simp
            refine hK _ _ ?_
            clear hK K
            refine wpAny_ready (rs := [4]) (by kernel_rfl) (by simp) (AllReady.cons rfl (fun K hK => ?_) (AllReady.nil))
            go_simp
            refine hK _ _ ?_
            clear hK K
            refine wpAny_take (i := 5) (v := ?_) rfl (by kernel_rfl) (by kernel_rfl) (by kernel_rfl) (fun _ _ _ h => h) (Or.inl ⟨by rfl, ?_⟩) ?_
            rotate_left
            focus (intro w0; go_simp; try with_reducible rfl)
            refine wpAny_take (i := 6) (v := ?_) rfl (by kernel_rfl) (by kernel_rfl) (by kernel_rfl) (fun _ _ _ h => h) (Or.inl ⟨by rfl, ?_⟩) ?_
            rotate_left
            focus (intro w0; go_simp; try with_reducible rfl)
            refine wpAny_ready (rs := [7]) (by kernel_rfl) (by simp) (AllReady.cons rfl (fun K hK => ?_) (AllReady.nil))
            go_simp
            refine hK _ _ ?_
            clear hK K
            refine wpAny_seq 8 rfl (by kernel_rfl) ?_
            simp only [List.drop_succ_cons, List.drop_zero]
          rotate_left 1
          focus
            go_simp
            refine hK _ _ ?_
            clear hK K
            refine wpAny_take (i := 5) (v := ?_) rfl (by kernel_rfl) (by kernel_rfl) (by kernel_rfl) (fun _ _ _ h => h) (Or.inl ⟨by rfl, ?_⟩) ?_
            rotate_left
            focus (intro w0; go_simp; try with_reducible rfl)
            refine wpAny_take (i := 6) (v := ?_) rfl (by kernel_rfl) (by kernel_rfl) (by kernel_rfl) (fun _ _ _ h => h) (Or.inl ⟨by rfl, ?_⟩) ?_
            rotate_left
            focus (intro w0; go_simp; try with_reducible rfl)
            refine wpAny_ready (rs := [0, 7]) (by kernel_rfl) (by simp) (AllReady.cons rfl (fun K hK => ?_) (AllReady.cons rfl (fun K hK => ?_) (AllReady.nil)))
            focus
              go_simp
              refine hK _ _ ?_
              clear hK K
              refine wpAny_ready (rs := [7]) (by kernel_rfl) (by simp) (AllReady.cons rfl (fun K hK => ?_) (AllReady.nil))
              go_simp
              refine hK _ _ ?_
              clear hK K
              refine wpAny_seq 8 rfl (by kernel_rfl) ?_
              simp only [List.drop_succ_cons, List.drop_zero]
            rotate_left 1
            focus
              go_simp
              refine hK _ _ ?_
              clear hK K
              refine wpAny_ready (rs := [0]) (by kernel_rfl) (by simp) (AllReady.cons rfl (fun K hK => ?_) (AllReady.nil))
              go_simp
              refine hK _ _ ?_
              clear hK K
              refine wpAny_seq 8 rfl (by kernel_rfl) ?_
              simp only [List.drop_succ_cons, List.drop_zero]
        all_goals
          go_wp2
          gi_wp2_with (gi_at_builtin; refine wpListIn_append_own_at _ rfl _ _ 39 rfl w.heap.size 26 i0 (.agg #[.int .i64 (0), .int .i64 (0)]) 2 16 Tryd.underlying39 hi hz0 hz1 hz2 rfl (by decide) _ _ _ rfl (hown.alloc _) ⟨V.heap.size, 0, none⟩ 1 1 [.int .i64 yx, .int .i64 yy] rfl rfl ?c1 ?c2 ?c3 ?c4 ?c5 ?_)
          case c1 =>
            intro j u hj
            match j, hj with
            | 0, hj => simp at hj; subst hj; simp [Addr.add]
            | 1, hj => simp at hj; subst hj; simp [Addr.add]
          case c2 => intro u hu; simp at hu; rcases hu with rfl | rfl <;> rfl
          case c3 => unfold maxLen; omega
          case c4 => omega
          case c5 => simp; omega
          intro v' w5 hown' hgrow _ hat
          obtain ⟨sa, sl, sc, rfl⟩ : ∃ sa sl sc, v' = .slice sa sl sc := by rcases hown'.2 with ⟨e, _⟩ | ⟨g, cap, cur, e, _⟩ <;> exact ⟨_, _, _, e⟩
          have hV' : Vecs w5 w.heap.size (.slice sa sl sc) (L2 ++ [(yx, yy)]) := Vecs.snoc rfl hown'
          rw [← HFl.out] at hV'
          have c5 : Boxed w5 w.heap.size 39 v2 := (c4'.alloc _).kept hgrow (fun e => (hap _ e.symm).2.1 rfl)
          have b5 : Boxed w5 Bx 99 (.pointer (some ⟨q1, 0, none⟩)) := (bY'.alloc _).kept hgrow (fun e => (hap _ e.symm).2.2.2 rfl)
          have k5 := c5.cell
          have f5 := c5.frozen
          have eb : ∀ g, g < V.heap.size → (∀ kk, v2.ownBlock = some kk → kk ≠ g) → w5.heap[g]? = V.heap[g]? := fun g hg hne =>
            (hgrow.block g (by simp; omega) (fun e => hne g e.symm rfl)).trans (Below.heap_alloc V.drew _ g hg)
          have hsz5 : V.heap.size + 1 ≤ w5.heap.size := by have := hgrow.size; simpa using this
          have HG5 := Lib.hid hgrow
          have HV' := Lib.hid hV'
          clear hown' hgrow hown hV'
          gi_wp2
          have hgrow' := HG5.out
          have KO2 : KeepsOthers V.drew w5 := (KeepsOthers.alloc V.drew _).trans (KeepsOthers.of_grownBy hgrow' (by
            intro j o hj ho
            obtain ⟨o2, e2, hc2⟩ := hcl j hj
            rw [Below.heap_alloc V.drew _ j (hlt j hj)] at ho
            rw [show V.drew.heap[j]? = V.heap[j]? from rfl, e2] at ho
            cases ho
            exact hc2))
          have KO3 := KO2.trans (KeepsOthers.setCell w5 ⟨w.heap.size, 0, none⟩ (.slice sa sl sc))
          have hnB : ∀ k, (Value.slice sa sl sc).ownBlock = some k → ¬ X k ∧ k ≠ w.heap.size ∧ k ≠ Bs ∧ k ≠ Bx := fun k hk => by
            rcases hat with h2 | h2
            · exact hap k (h2.symm.trans hk)
            · rw [hk] at h2
              have e3 : k = V.heap.size + 1 := by simpa using h2
              exact ⟨fun hx => by have := hXV k hx; omega, by omega, by omega, by omega⟩
          refine ⟨⟨KO3.size, KO3.same⟩, ⟨fun k hk => ?_, ?_, ?_⟩, ⟨⟨_, c5.set _, HV'.out.far (grown_set _ _ _ _) (fun k hk e => ?_), hnB⟩, b5.kept (grown_set _ _ _ _) (fun e => ?_), hX, ?_, hkV.trans ⟨KO3.size, KO3.same⟩, ?_⟩⟩
          · have hne := hX k hk
            rw [Below.heap_setCell _ ⟨w.heap.size, 0, none⟩ _ k (by simp; omega)]
            exact eb k (hXV k hk) (fun kk h2 e => (hap kk h2).1 (by rw [e]; exact hk))
          · rw [Below.heap_setCell _ ⟨w.heap.size, 0, none⟩ _ Bs (by simp; omega)]
            exact eb Bs (by omega) (fun kk h2 => (hap kk h2).2.2.1)
          · simp; omega
          · have e' : w.heap.size = k := by cases e; rfl
            exact (hnB k hk).2.1 e'.symm
          · cases e
            omega
          · exact ((hlowV.drew.alloc hbs _).grown hgrow' (by simp; omega) (fun kk h => hblk kk h)).setCell (p := ⟨w.heap.size, 0, none⟩) (Nat.le_refl _) _
          · simp; omega
    case done2 =>
      rintro X xs W' rfl ⟨⟨v2, c4, hv2, hap⟩, bY, hX, hlowV, hkV, hsV⟩
      gi_wp2
      refine ⟨hkV.from _, hlowV, ⟨⟨v2, c4, ?_, trivial⟩, hbW.out.trans hlowV⟩⟩
      rw [HRs.out]
      exact hv2
  case done =>
    rintro D xs W hD rfl ⟨⟨v, hv, hrow, _⟩, hb⟩ hK
    have k4 := hv.cell
    have hV : Vecs W w.heap.size v (resZ (rays ns)) := by
      have : Vecs W w.heap.size v (resL (rays ns) (List.range ns.length)) := hrow
      unfold resZ
      rw [rays_len]
      exact this
    have HV := Lib.hid (Vecs.putObj hV (.deferred none) hK rfl)
    have hB2 : Below w.heap.size w (W.putObj D (.deferred none)) := hb.grown (grownBy_putObj' W D (.deferred none)) hb.size (fun k e => by cases e; omega)
    clear hV hrow
    gi_wp2
    refine ⟨by simp, .inl ⟨_, _, rfl, run_takeDeferred hK, ?_⟩⟩
    exact ⟨_, results_tmp rfl _ _ _, v, rfl, HV.out, hB2⟩
  case stop =>
    rintro D c pre W _ _ h _
    exact h.elim
set_option maxHeartbeats 8000000 in
theorem fanResolve_any (v : Value) (l : List V2) (w : World) (hl : ReadsVecs w v l) (hg : EtOk w) :
    Calls Tryd.prog 55 #[v] w (GivesVecsOk w (gV (resB l) (resZ l)) (resB l)) := by
  have HO := Lib.hid (fanOf_any v l w hl hg)
  have HG := Lib.hid hg
  cases hf : fanB l
  · have e0 : resB l = false := by simp [resB, hf]
    rw [e0]
    rw [hf] at HO
    clear hf hl hg
    go_enter Tryd.func55, Tryd.ntmps55
    go_wp2_with fail
    refine Calls.mono HO.out ?_
    rintro e1 w1 ⟨⟨h, _⟩ | ⟨_, rfl⟩, hb1⟩
    · cases h
    · go_wp2
      go_returns
      exact ⟨_, rfl, Vecs.nil _ _, hb1⟩
  · have e0 : resB l = fanB (resZ l) := by simp [resB, hf]
    rw [e0]
    have HS := Lib.hid (fun (ns : List Node) hn => fan_small (l := l) (ns := ns) hf hn)
    have HC := Lib.hid (fun i => fan_cone hf i)
    have HLn : Hid ((resZ l).length ≤ 40000040) := by
      have h1 := resL_len (fun i => fan_cone hf i) (List.range l.length)
      have h2 := fan_len hf
      rw [List.length_range] at h1
      show (resL l (List.range l.length)).length ≤ _
      omega
    have HF2 := Lib.hid (fun v' w' h' hg' => fanOf_any v' (resZ l) w' h' hg')
    have HSm := Lib.hid (fun (ns : List Node) h hn => fan_small (l := resZ l) (ns := ns) h hn)
    rw [hf] at HO
    clear hf hl hg
    go_enter Tryd.func55, Tryd.ntmps55
    go_wp2_with fail
    refine Calls.mono HO.out ?_
    rintro e1 w1 ⟨⟨_, g, ns, rfl, hF, hn⟩ | ⟨h, _⟩, hb1⟩
    · obtain ⟨hs, _⟩ := HS.out ns hn
      have HR := Lib.hid (callsIn_wide.1 (resolved_in 6 (by omega) _ g ns w1 hF hs (by rw [hn]; exact HC.out)))
      rw [hn] at HR
      clear hF hn hs HO HS HC
      go_wp2_with fail
      refine Calls.mono HR.out ?_
      rintro e2 w2 ⟨v2, rfl, hV2, hb2⟩
      have hB2 := belowTo hb1 hb2
      have HFo := Lib.hid (HF2.out v2 w2 (hV2.reads (by have := HLn.out; omega)) (HG.out.below hB2))
      clear hb1 hb2 hV2 HR HF2 HLn
      cases hf : fanB (resZ l)
      · rw [hf] at HFo
        have HO : Hid (fanB (resZ l) = false) := hf
        clear hf HSm
        go_wp2_with fail
        refine Calls.mono HFo.out ?_
        rintro e w3 ⟨⟨h, _⟩ | ⟨_, rfl⟩, hb3⟩
        · cases h
        · replace hB2 := belowTo hB2 hb3
          clear hb3
          go_wp2
          go_returns
          rw [HO.out]
          exact ⟨_, rfl, Vecs.nil _ _, hB2⟩
      · rw [hf] at HFo HSm
        have HO : Hid (fanB (resZ l) = true) := hf
        clear hf
        go_wp2_with fail
        refine Calls.mono HFo.out ?_
        rintro e w3 ⟨⟨_, g, ns, rfl, hF, hn⟩ | ⟨h, _⟩, hb3⟩
        · obtain ⟨hs, _⟩ := HSm.out ns (by simp) hn
          have HR := Lib.hid (rays_any _ g ns w3 hF hs)
          have hB3 := belowTo hB2 hb3
          rw [hn] at HR
          clear hF hn hs hb3 HFo
          go_wp2_with fail
          refine Calls.mono HR.out ?_
          rintro e w4 ⟨v4, rfl, hV4, hb4⟩
          have HV4 := Lib.hid (hV4.lower hB3.size)
          have hB4 := belowTo hB3 hb4
          clear hV4 hb4
          go_wp2
          go_returns
          rw [HO.out]
          exact ⟨_, rfl, HV4.out, hB4⟩
        · cases h
    · cases h
end Go.Proofs.YtcieihbknfeddaaDoor
