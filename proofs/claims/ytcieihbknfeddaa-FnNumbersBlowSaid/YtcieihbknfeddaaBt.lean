import Derived.RangeFuncNested
import Derived.RangeFuncBound
import Derived.RangeFuncCalls
import Derived.RangeFuncLeaves
import Derived.RangeFuncBox
import Derived.WalkKit
import Derived.Below
import Derived.Shelf.Abstract
import Derived.OwnWalkIn
import Derived.TacticsInMore
import Derived.LoopNIn
import Derived.LoopIn
import Derived.Test.YtcieihbknfeddaaB1
import Derived.Test.YtcieihbknfeddaaB5
import Derived.Test.YtcieihbknfeddaaB3
import Derived.Test.YtcieihbknfeddaaB2
import Derived.Shelf.RegionOpen
import Derived.Sort.CutIn
import Derived.Deep.RegionWith
import Derived.Test.YtcieihbknfeddaaB4
import Derived.Maps.OwnIn
import Derived.Test.YtcieihbknfeddaaMr
import Derived.Test.YtcieihbknfeddaaB9
import Derived.Test.YtcieihbknfeddaaI7
/- A range over an iterator that keeps variables of its own between two rounds: the caller's law, at the wide fence, for a body that never leaves, with a loop variable in a new block each round. The caller's invariant I X is told of the iterator's own blocks, X: it abides stores into them. -/
namespace Go.Proofs.Ytcieihbknfeddaa
open Go.RowKit Go.Shelf

/-- what a round keeps for the iterator: its own blocks, those of X, and the block Bs -/
def KeepPriv (X : Nat → Prop) (Bs : Nat) (A B : World) : Prop := (∀ k, X k → B.heap[k]? = A.heap[k]?) ∧ B.heap[Bs]? = A.heap[Bs]? ∧ A.heap.size ≤ B.heap.size
/-- how a round of the body ends: it goes on -/
def PrivPost {α : Type} (X : Nat → Prop) (Bs : Nat) (I : (Nat → Prop) → List α → World → Prop) (xs : List α) (V : World) : Exit → Act → World → Prop
  | .normal, _, V' => KeepsOthers V V' ∧ KeepPriv X Bs V V' ∧ I X xs V'
  | _, _, _ => False
/-- what an invariant abides that is told of the iterator's own blocks -/
structure Abides {α : Type} (I : (Nat → Prop) → List α → World → Prop) : Prop where
  less : ∀ X Y pre A, I X pre A → (∀ k, Y k → X k) → I Y pre A
  fresh : ∀ X pre A, I X pre A → I (fun k => X k ∨ A.heap.size ≤ k) pre A
  grows : ∀ X pre A B, I X pre A → A.grownBy B none → I X pre B
  own : ∀ X pre A g o v, I X pre A → X g → I X pre (A.setCell ⟨g, o, none⟩ v)
/-- what the iterator owes, for whatever invariant abides its own doings -/
def PrivSeq {α : Type} (n : Nat) (P : Program) (gf : Nat) (lb : Array Value) (encs : α → Array Value) (S : List α → Prop) (N Bs : Nat) (w : World) : Prop :=
  ∀ (l : Nat) (J : (Nat → Prop) → List α → World → Prop) (W : World), Below w.heap.size w W → Abides J →
    (∀ X pre x W1, J X pre W1 → (∀ k, X k → k < W1.heap.size) → pre.length < N → YieldAt Fence.wide (n - 1) P l (encs x) W1 fun e W' => e = .returned (.bool true) ∧ J X (pre ++ [x]) W' ∧ KeepPriv X Bs W1 W') →
    J (fun k => W.heap.size ≤ k) [] W →
    CallsIn Fence.wide n P gf (#[.func (.yield l) #[] #[]] ++ lb) W fun e W' => (∃ v, e = .returned v) ∧ ∃ X xs, S xs ∧ J X xs W'

theorem heap_putObj_other {W : World} {l k : Nat} (o : Obj) (h : k ≠ l) : (W.putObj l o).heap[k]? = W.heap[k]? := World.putObj_heap_other h

theorem wpIn_rangePriv {α : Type} {n : Nat} {P : Program} {g : Operand} {ps : Array Tmp} {assign body : Code} {Q : Exit → Act → World → Prop} {a : Act} {w : World}
    (h1 : 1 ≤ n) {gf : Nat} {lb : Array Value} (hg : a.eval g = .func (.func gf) #[] lb) (eg : ∀ args w, (callFunc gf args).run P w = .ok (.enter gf args) w)
    {encs : α → Array Value} {S : List α → Prop} {N Bs : Nat} (hBs : Bs < w.heap.size) (hseq : PrivSeq (n - 1) P gf lb encs S N Bs w) (hps : ∀ x, (encs x).size = ps.size)
    (I : (Nat → Prop) → List α → World → Prop) (hI : Abides I)
    (hIo : ∀ X pre A l o o', I X pre A → w.heap.size ≤ l → A.heap[l]? = some o → o.isCells = false → I X pre (A.putObj l o'))
    (h0 : I (fun k => w.heap.size ≤ k) [] w) (a₁ : α → Nat → Act) (ob : α → Obj)
    (hassign : ∀ (l : Nat) (x : α) (W : World) (K : Act → World → Prop), K (a₁ x W.heap.size) (W.alloc (ob x)) →
      assign.wpIn (Fence.wide.inRound l) (n - 1 - 1) P (Exit.then K (fun _ _ _ => False)) { tmps := (ps.zip (encs x)).foldl (fun t (p, v) => t.setIfInBounds p v) a.tmps, defers := [] } W)
    (hbody : ∀ (l : Nat) (X : Nat → Prop) (pre : List α) (x : α) (V : World) (b : Nat), I X pre V → (∀ k, X k → k < V.heap.size) → w.heap.size ≤ b → V.heap[b]? = some (ob x) → pre.length < N →
      body.wpIn (Fence.wide.inRound l) (n - 1 - 1) P (PrivPost X Bs I (pre ++ [x]) V) (a₁ x b) V)
    (hdone : ∀ (D : Nat) (X : Nat → Prop) (xs : List α) (W : World), w.heap.size ≤ D → S xs → I X xs W → W.heap[D]? = some (.deferred (some [])) → Q .normal { a with defers := { target := .collected D, args := #[] } :: a.defers } W) :
    (Code.rangeFunc g ps assign body).wpIn Fence.wide n P Q a w := by
  refine wpIn_rangeFunc ?_
  intro fn hfn
  obtain ⟨st, hst⟩ : ∃ st : LoopState → Option Code → Loop, st = fun s pe => { state := s, pending := pe, fn := fn, tmps := a.tmps, params := ps, assign := assign, body := body, defers := w.heap.size } := ⟨_, rfl⟩
  obtain ⟨W1, hW1⟩ : ∃ W1, W1 = (w.alloc (.deferred (some []))).alloc (.loop (st .ready none)) := ⟨_, rfl⟩
  have hs1 : W1.heap.size = w.heap.size + 1 + 1 := by rw [hW1]; simp
  have hL : W1.heap[w.heap.size + 1]? = some (.loop (st .ready none)) := by
    rw [hW1]
    have := World.alloc_heap_new (w.alloc (.deferred (some []))) (.loop (st .ready none))
    rwa [World.size_alloc] at this
  have hD : W1.heap[w.heap.size]? = some (.deferred (some [])) := by
    rw [hW1]
    exact (Below.heap_alloc _ _ _ (by simp)).trans (World.alloc_heap_new w _)
  have hgr : I (fun k => W1.heap.size ≤ k) [] W1 := by
    have h2 : I (fun k => w.heap.size ≤ k) [] W1 := by
      rw [hW1]
      exact hI.grows _ _ _ _ (hI.grows _ _ _ _ h0 (World.grownBy_alloc w _ none)) (World.grownBy_alloc _ _ none)
    exact hI.less _ _ _ _ h2 (fun k hk => by omega)
  have hb1 : Below w.heap.size w W1 := by
    rw [hW1]
    exact ((Below.refl _ w).alloc (Nat.le_refl _) _).alloc (by simp) _
  refine ⟨w.heap.size + 1, [{ target := .collected w.heap.size, args := #[] }], W1, { target := .fn (.func gf) lb, args := #[.func (.yield (w.heap.size + 1)) #[] #[]] }, W1, gf,
    #[.func (.yield (w.heap.size + 1)) #[] #[]] ++ lb, W1, ?_, ?_, ?_, ?_, fun _ => h1, ?_⟩
  · rw [hW1, hst]; exact run_enterLoop_outer _ _ _ _ _
  · simp only [resolve, hg]
    simp [go_sem]
  · intro f' _; trivial
  · simp [invoke, go_sem, eg]
  refine (hseq (w.heap.size + 1) (fun X pre W => I X pre W ∧ (∀ k, X k → w.heap.size + 1 + 1 ≤ k) ∧ W.heap[w.heap.size + 1]? = some (.loop (st .ready none)) ∧ W.heap[w.heap.size]? = some (.deferred (some []))) W1 hb1 ?_ ?_ ?_).mono ?_
  · refine ⟨?_, ?_, ?_, ?_⟩
    · rintro X Y pre A ⟨hi, hx, hl, hd⟩ hYX
      exact ⟨hI.less _ _ _ _ hi hYX, fun k hk => hx k (hYX k hk), hl, hd⟩
    · rintro X pre A ⟨hi, hx, hl, hd⟩
      have hlA := (Array.getElem?_eq_some_iff.1 hl).1
      exact ⟨hI.fresh _ _ _ hi, fun k hk => hk.elim (hx k) (fun h => by omega), hl, hd⟩
    · rintro X pre A B ⟨hi, hx, hl, hd⟩ hgw
      have hlA := (Array.getElem?_eq_some_iff.1 hl).1
      have hdA := (Array.getElem?_eq_some_iff.1 hd).1
      exact ⟨hI.grows _ _ _ _ hi hgw, hx, (hgw.block _ hlA (by simp)).trans hl, (hgw.block _ hdA (by simp)).trans hd⟩
    · rintro X pre A k o v ⟨hi, hx, hl, hd⟩ hk
      have := hx k hk
      exact ⟨hI.own _ _ _ _ _ _ hi hk, hx, (Below.heap_setCell A ⟨k, o, none⟩ v _ (show w.heap.size + 1 ≠ k by omega)).trans hl, (Below.heap_setCell A ⟨k, o, none⟩ v _ (show w.heap.size ≠ k by omega)).trans hd⟩
  · rintro X pre x W ⟨hi, hx, hl, hd⟩ hXW hlen
    have hlt : w.heap.size + 1 < W.heap.size := (Array.getElem?_eq_some_iff.1 hl).1
    have hy := run_yield (P := P) (args := encs x) hl (by rw [hst]; exact hps x)
    rw [hst] at hy
    refine ⟨fn, _, assign, body, hy, roundIn_of_wpIn hfn (hassign _ x W _ ?_)⟩
    have hl1 : (W.alloc (ob x)).heap[w.heap.size + 1]? = some (.loop (st .ready none)) := (Below.heap_alloc W _ _ hlt).trans hl
    have hd1 : (W.alloc (ob x)).heap[w.heap.size]? = some (.deferred (some [])) := (Below.heap_alloc W _ _ (by omega)).trans hd
    refine ⟨_, run_beginRound hl1 (by rw [hst]), ?_⟩
    obtain ⟨V, hV⟩ : ∃ V, V = (W.alloc (ob x)).putObj (w.heap.size + 1) (.loop { st .ready none with state := .busy }) := ⟨_, rfl⟩
    rw [← hV]
    have hiV : I X pre V := by
      rw [hV]
      exact hIo _ _ _ _ _ _ (hI.grows _ _ _ _ hi (World.grownBy_alloc W _ none)) (by omega) hl1 rfl
    have hob : V.heap[W.heap.size]? = some (ob x) := by
      rw [hV, heap_putObj_other _ (by omega)]
      exact World.alloc_heap_new W _
    have hlV : V.heap[w.heap.size + 1]? = some (.loop { st .ready none with state := .busy }) := by
      rw [hV]
      exact World.putObj_heap_same (by simp; omega)
    have hdV : V.heap[w.heap.size]? = some (.deferred (some [])) := by
      rw [hV, heap_putObj_other _ (by omega)]
      exact hd1
    have hkV : ∀ k, k < W.heap.size → k ≠ w.heap.size + 1 → V.heap[k]? = W.heap[k]? := fun k hk hne => by
      rw [hV, heap_putObj_other _ hne]
      exact Below.heap_alloc W _ k hk
    have hsV : V.heap.size = W.heap.size + 1 := by rw [hV]; simp [World.putObj]
    refine wpIn_mono (hbody _ X pre x V W.heap.size hiV (fun k hk => by have := hXW k hk; omega) (by omega) hob hlen) ?_
    rintro e a3 V3 hp
    cases e with
    | normal =>
      obtain ⟨hk3, hp3, hi3⟩ := hp
      have hl3 := hk3.same _ _ hlV rfl
      have hd3 := hk3.same _ _ hdV rfl
      have hend := run_endRound (P := P) none hl3
      have hfin : ({ ({ st .ready none with state := .busy } : Loop) with state := if (none : Option Code).isNone then .ready else .done, pending := none } : Loop) = st .ready none := by rw [hst]; rfl
      rw [hfin] at hend
      refine ⟨_, _, hend, rfl, ⟨hIo _ _ _ _ _ _ hi3 (by omega) hl3 rfl, hx, World.putObj_heap_same (Array.getElem?_eq_some_iff.1 hl3).1, (heap_putObj_other _ (by omega)).trans hd3⟩, ?_⟩
      refine ⟨fun k h2 => ?_, ?_, ?_⟩
      · have := hx k h2
        have := hXW k h2
        rw [heap_putObj_other _ (by omega), hp3.1 k h2]
        exact hkV k (by omega) (by omega)
      · rw [heap_putObj_other _ (by omega), hp3.2.1]
        exact hkV Bs (by omega) (by omega)
      · have := hp3.2.2
        simp [World.putObj]
        omega
    | ret => exact hp.elim
    | exit id => exact hp.elim
    | goto t => exact hp.elim
    | panic ch => exact hp.elim
    | outgrown => exact hp.elim
  · exact ⟨hgr, fun k hk => by omega, hL, hD⟩
  · rintro e W2 ⟨⟨v, rfl⟩, X, xs, hS, hi, hx, hl, hd⟩
    have hend := run_endLoop (P := P) hl (by rw [hst]; simp)
    refine ⟨none, _, by rw [hend, hst], ?_⟩
    exact hdone _ X xs _ (Nat.le_refl _) hS (hIo _ _ _ _ _ _ hi (by omega) hl rfl) ((heap_putObj_other _ (by omega)).trans hd)
end Go.Proofs.Ytcieihbknfeddaa

/- A range over an iterator that keeps variables of its own (XVf), within a round of another loop: the caller's law. -/
namespace Go.Proofs.Ytcieihbknfeddaa
open Go.RowKit Go.Shelf

theorem wpIn_rangePrivN {α : Type} {n : Nat} {P : Program} {g : Operand} {ps : Array Tmp} {assign body : Code} {Q : Exit → Act → World → Prop} {a : Act} {w : World}
    {l₀ : Nat} {r₀ : Loop} (hl₀ : w.heap[l₀]? = some (.loop r₀))
    (h1 : 1 ≤ n) {gf : Nat} {lb : Array Value} (hg : a.eval g = .func (.func gf) #[] lb) (eg : ∀ args w, (callFunc gf args).run P w = .ok (.enter gf args) w)
    {encs : α → Array Value} {S : List α → Prop} {N Bs : Nat} (hBs : Bs < w.heap.size) (hseq : PrivSeq (n - 1) P gf lb encs S N Bs w) (hps : ∀ x, (encs x).size = ps.size)
    (I : (Nat → Prop) → List α → World → Prop) (hI : Abides I)
    (hIo : ∀ X pre A l o o', I X pre A → w.heap.size ≤ l → A.heap[l]? = some o → o.isCells = false → I X pre (A.putObj l o'))
    (h0 : I (fun k => w.heap.size ≤ k) [] w) (a₁ : α → Nat → Act) (ob : α → Obj)
    (hassign : ∀ (l : Nat) (x : α) (W : World) (K : Act → World → Prop), K (a₁ x W.heap.size) (W.alloc (ob x)) →
      assign.wpIn (Fence.wide.inRound l) (n - 1 - 1) P (Exit.then K (fun _ _ _ => False)) { tmps := (ps.zip (encs x)).foldl (fun t (p, v) => t.setIfInBounds p v) a.tmps, defers := [] } W)
    (hbody : ∀ (l : Nat) (X : Nat → Prop) (pre : List α) (x : α) (V : World) (b : Nat), I X pre V → (∀ k, X k → k < V.heap.size) → w.heap.size ≤ b → V.heap[b]? = some (ob x) → pre.length < N →
      body.wpIn (Fence.wide.inRound l) (n - 1 - 1) P (PrivPost X Bs I (pre ++ [x]) V) (a₁ x b) V)
    (hdone : ∀ (X : Nat → Prop) (xs : List α) (W : World), S xs → I X xs W → Q .normal a W) :
    (Code.rangeFunc g ps assign body).wpIn (Fence.wide.inRound l₀) n P Q a w := by
  refine wpIn_rangeFunc ?_
  intro fn hfn
  rw [show (Fence.wide.inRound l₀).round = some l₀ from rfl]
  obtain ⟨st, hst⟩ : ∃ st : LoopState → Option Code → Loop, st = fun s pe => { state := s, pending := pe, fn := fn, tmps := a.tmps, params := ps, assign := assign, body := body, defers := r₀.defers } := ⟨_, rfl⟩
  obtain ⟨W1, hW1⟩ : ∃ W1, W1 = w.alloc (.loop (st .ready none)) := ⟨_, rfl⟩
  have hs1 : W1.heap.size = w.heap.size + 1 := by rw [hW1]; simp
  have hL : W1.heap[w.heap.size]? = some (.loop (st .ready none)) := by
    rw [hW1]
    exact World.alloc_heap_new w (.loop (st .ready none))
  have hgr : I (fun k => W1.heap.size ≤ k) [] W1 := by
    have h2 : I (fun k => w.heap.size ≤ k) [] W1 := by
      rw [hW1]
      exact hI.grows _ _ _ _ h0 (World.grownBy_alloc w _ none)
    exact hI.less _ _ _ _ h2 (fun k hk => by omega)
  have hb1 : Below w.heap.size w W1 := by
    rw [hW1]
    exact (Below.refl _ w).alloc (Nat.le_refl _) _
  refine ⟨w.heap.size, [], W1, { target := .fn (.func gf) lb, args := #[.func (.yield w.heap.size) #[] #[]] }, W1, gf,
    #[.func (.yield w.heap.size) #[] #[]] ++ lb, W1, ?_, ?_, ?_, ?_, fun _ => h1, ?_⟩
  · rw [hW1, hst]; exact run_enterLoop_inner hl₀ _ _ _ _ _
  · simp only [resolve, hg]
    simp [go_sem]
  · intro f' _; trivial
  · simp [invoke, go_sem, eg]
  refine (CallsIn.inRound l₀ (hseq w.heap.size (fun X pre W => I X pre W ∧ (∀ k, X k → w.heap.size + 1 ≤ k) ∧ W.heap[w.heap.size]? = some (.loop (st .ready none))) W1 hb1 ?_ ?_ ?_)).mono ?_
  · refine ⟨?_, ?_, ?_, ?_⟩
    · rintro X Y pre A ⟨hi, hx, hl⟩ hYX
      exact ⟨hI.less _ _ _ _ hi hYX, fun k hk => hx k (hYX k hk), hl⟩
    · rintro X pre A ⟨hi, hx, hl⟩
      have hlA := (Array.getElem?_eq_some_iff.1 hl).1
      exact ⟨hI.fresh _ _ _ hi, fun k hk => hk.elim (hx k) (fun h => by omega), hl⟩
    · rintro X pre A B ⟨hi, hx, hl⟩ hgw
      have hlA := (Array.getElem?_eq_some_iff.1 hl).1
      exact ⟨hI.grows _ _ _ _ hi hgw, hx, (hgw.block _ hlA (by simp)).trans hl⟩
    · rintro X pre A k o v ⟨hi, hx, hl⟩ hk
      have := hx k hk
      exact ⟨hI.own _ _ _ _ _ _ hi hk, hx, (Below.heap_setCell A ⟨k, o, none⟩ v _ (show w.heap.size ≠ k by omega)).trans hl⟩
  · rintro X pre x W ⟨hi, hx, hl⟩ hXW hlen
    have hlt : w.heap.size < W.heap.size := (Array.getElem?_eq_some_iff.1 hl).1
    have hy := run_yield (P := P) (args := encs x) hl (by rw [hst]; exact hps x)
    rw [hst] at hy
    refine ⟨fn, _, assign, body, hy, roundIn_of_wpIn hfn (hassign _ x W _ ?_)⟩
    have hl1 : (W.alloc (ob x)).heap[w.heap.size]? = some (.loop (st .ready none)) := (Below.heap_alloc W _ _ hlt).trans hl
    refine ⟨_, run_beginRound hl1 (by rw [hst]), ?_⟩
    obtain ⟨V, hV⟩ : ∃ V, V = (W.alloc (ob x)).putObj w.heap.size (.loop { st .ready none with state := .busy }) := ⟨_, rfl⟩
    rw [← hV]
    have hiV : I X pre V := by
      rw [hV]
      exact hIo _ _ _ _ _ _ (hI.grows _ _ _ _ hi (World.grownBy_alloc W _ none)) (Nat.le_refl _) hl1 rfl
    have hob : V.heap[W.heap.size]? = some (ob x) := by
      rw [hV, heap_putObj_other _ (by omega)]
      exact World.alloc_heap_new W _
    have hlV : V.heap[w.heap.size]? = some (.loop { st .ready none with state := .busy }) := by
      rw [hV]
      exact World.putObj_heap_same (by simp; omega)
    have hkV : ∀ k, k < W.heap.size → k ≠ w.heap.size → V.heap[k]? = W.heap[k]? := fun k hk hne => by
      rw [hV, heap_putObj_other _ hne]
      exact Below.heap_alloc W _ k hk
    have hsV : V.heap.size = W.heap.size + 1 := by rw [hV]; simp [World.putObj]
    refine wpIn_mono (hbody _ X pre x V W.heap.size hiV (fun k hk => by have := hXW k hk; omega) (by omega) hob hlen) ?_
    rintro e a3 V3 hp
    cases e with
    | normal =>
      obtain ⟨hk3, hp3, hi3⟩ := hp
      have hl3 := hk3.same _ _ hlV rfl
      have hend := run_endRound (P := P) none hl3
      have hfin : ({ ({ st .ready none with state := .busy } : Loop) with state := if (none : Option Code).isNone then .ready else .done, pending := none } : Loop) = st .ready none := by rw [hst]; rfl
      rw [hfin] at hend
      refine ⟨_, _, hend, rfl, ⟨hIo _ _ _ _ _ _ hi3 (Nat.le_refl _) hl3 rfl, hx, World.putObj_heap_same (Array.getElem?_eq_some_iff.1 hl3).1⟩, ?_⟩
      refine ⟨fun k h2 => ?_, ?_, ?_⟩
      · have := hx k h2
        have := hXW k h2
        rw [heap_putObj_other _ (by omega), hp3.1 k h2]
        exact hkV k (by omega) (by omega)
      · rw [heap_putObj_other _ (by omega), hp3.2.1]
        exact hkV Bs (by omega) (by omega)
      · have := hp3.2.2
        simp [World.putObj]
        omega
    | ret => exact hp.elim
    | exit id => exact hp.elim
    | goto t => exact hp.elim
    | panic ch => exact hp.elim
    | outgrown => exact hp.elim
  · exact ⟨hgr, fun k hk => by omega, hL⟩
  · rintro e W2 ⟨⟨v, rfl⟩, X, xs, hS, hi, hx, hl⟩
    have hend := run_endLoop (P := P) hl (by rw [hst]; simp)
    refine ⟨none, _, by rw [hend, hst], ?_⟩
    exact hdone X xs _ hS (hIo _ _ _ _ _ _ hi (Nat.le_refl _) hl rfl)
end Go.Proofs.Ytcieihbknfeddaa

/- Plain mathematics of fractions: which lists have a value. -/
namespace Go.Proofs.Ytcieihbknfeddaa
open Go.RowKit

def rngB (b : Int) : Bool := decide (2 ≤ b) && decide (b ≤ 100)
theorem rngB_in {b : Int} (h : rngB b = true) : 2 ≤ b ∧ b ≤ 100 := by simpa [rngB] using h
theorem rngB_out {b : Int} (h : rngB b = false) : b < 2 ∨ (2 ≤ b ∧ 100 < b) := by
  unfold rngB at h
  by_cases h1 : 2 ≤ b <;> by_cases h2 : b ≤ 100 <;> simp [h1, h2] at h <;> omega
def lenB (n : Nat) : Bool := decide (1 ≤ n) && decide (n ≤ 20)
theorem len_in {n : Nat} (h : lenB n = true) : 1 ≤ n ∧ n ≤ 20 := by simpa [lenB] using h
theorem len_out {n : Nat} (h : lenB n = false) : n = 0 ∨ (1 ≤ n ∧ 20 < n) := by
  unfold lenB at h
  by_cases h1 : 1 ≤ n <;> by_cases h2 : n ≤ 20 <;> simp [h1, h2] at h <;> omega
def lstB (l : List Int) : Bool := lenB l.length && l.all rngB
theorem lst_in {l : List Int} (h : lstB l = true) : lenB l.length = true ∧ ∀ b ∈ l, rngB b = true := by simpa [lstB] using h
theorem lst_two {l : List Int} (h : ∀ b ∈ l, rngB b = true) : twoUp l := fun b hb => (rngB_in (h b hb)).1
def valB (l : List Int) : Bool := lstB l && decide (contN l ≤ 1000000000)
theorem val_in {l : List Int} (h : valB l = true) : lstB l = true ∧ contN l ≤ 1000000000 := by simpa [valB] using h
theorem val_no {l : List Int} (h : lstB l = false) : valB l = false := by simp [valB, h]
/-- a list with an end whose number is too great -/
theorem val_great {m s : List Int} (h : ∀ b ∈ m ++ s, rngB b = true) (hs : 1000000000 < contN s) : valB (m ++ s) = false := by
  have := cont_app_le m s (lst_two h)
  have h2 : ¬ contN (m ++ s) ≤ 1000000000 := by omega
  simp [valB, h2]
theorem lst_bad {l : List Int} {b : Int} (hb : b ∈ l) (h : rngB b = false) : lstB l = false := by
  cases h2 : lstB l
  · rfl
  · have := (lst_in h2).2 b hb
    rw [h] at this; cases this
theorem lst_long {l : List Int} (h : lenB l.length = false) : lstB l = false := by simp [lstB, h]
theorem lst_all {l : List Int} (h1 : lenB l.length = true) (h2 : ∀ j, j < l.length → rngB (l[j]?.getD 0) = true) : lstB l = true := by
  unfold lstB
  rw [h1, Bool.true_and, List.all_eq_true]
  intro b hb
  obtain ⟨j, hj, rfl⟩ := List.mem_iff_getElem.1 hb
  have := h2 j hj
  simpa [hj] using this
theorem get_mem {l : List Int} {j : Nat} (h : j < l.length) : l[j]?.getD 0 ∈ l := by simp [h]
theorem drop_get {l : List Int} {j : Nat} (h : j < l.length) : l.drop j = l[j]?.getD 0 :: l.drop (j + 1) := by
  rw [List.drop_eq_getElem_cons h]
  simp [h]
end Go.Proofs.Ytcieihbknfeddaa

/- The whole base: the model's side, cones that are not smooth; ConeBase of the model. -/
namespace Go.Proofs.Ytcieihbknfeddaa
open Go.RowKit

theorem fracC_ne {a b c d : Int} (h : coneB a b c d = true) (hd : detZ a b c d ≠ 1) : fracC a b c d ≠ [] := by
  obtain ⟨_, o1, _, o2, _⟩ := cone_in h
  have hk := kindC_rng h
  have hg := kind_gcd (oneB_true o1) (oneB_true o2)
  have h0 : 0 < kindC a b c d := by
    by_cases h0 : 0 < kindC a b c d
    · exact h0
    · have e : kindZ a b c d = 0 := by show kindC a b c d = 0; omega
      rw [e, gcdZ_zero] at hg
      have : detZ a b c d = 1 := by
        have hp : 0 < detZ a b c d := by omega
        have hq : max (detZ a b c d) (-detZ a b c d) = 1 := hg
        omega
      exact absurd this hd
  unfold fracC
  rw [frac_pos _ h0]
  simp
/-- a variable in block g that holds the vector x, y -/
def VecAt (W : World) (g : Nat) (x y : Int) : Prop := (W.cell? ⟨g, 0, none⟩ = some (.int .i64 x) ∧ W.cell? ⟨g, 1, none⟩ = some (.int .i64 y)) ∧ (W.frozen? ⟨g, 0, none⟩ = false ∧ W.frozen? ⟨g, 1, none⟩ = false) ∧ g < W.heap.size
theorem VecAt.same {W W' : World} {g : Nat} {x y : Int} (h : VecAt W g x y) (e : W'.heap[g]? = W.heap[g]?) (hs : W.heap.size ≤ W'.heap.size) : VecAt W' g x y := by
  obtain ⟨⟨h1, h2⟩, ⟨h3, h4⟩, h5⟩ := h
  exact ⟨⟨(World.cell?_of_block (a := ⟨g, 0, none⟩) e).trans h1, (World.cell?_of_block (a := ⟨g, 1, none⟩) e).trans h2⟩, ⟨(World.frozen?_of_block (a := ⟨g, 0, none⟩) e).trans h3, (World.frozen?_of_block (a := ⟨g, 1, none⟩) e).trans h4⟩, Nat.lt_of_lt_of_le h5 hs⟩
theorem VecAt.alloc {W : World} {g : Nat} {x y : Int} (h : VecAt W g x y) (o : Obj) : VecAt (W.alloc o) g x y := h.same (Below.heap_alloc W o g h.2.2) (by simp)
theorem VecAt.new (W : World) (x y : Int) (t : TypeId) : VecAt (W.alloc (.cells #[.int .i64 x, .int .i64 y] t)) W.heap.size x y := by
  refine ⟨⟨?_, ?_⟩, ⟨?_, ?_⟩, by simp⟩ <;> simp
theorem VecAt.put {W : World} {g : Nat} {x y : Int} (h : VecAt W g x y) (u v : Int) : VecAt ((W.setCell ⟨g, 0, none⟩ (.int .i64 u)).setCell ⟨g, 1, none⟩ (.int .i64 v)) g u v := by
  obtain ⟨⟨h1, h2⟩, ⟨h3, h4⟩, h5⟩ := h
  refine ⟨⟨?_, ?_⟩, ⟨by simp [h3], by simp [h4]⟩, by simpa using h5⟩
  · rw [World.cell?_setCell_other _ _ _ _ (by simp)]
    exact World.cell?_setCell_same _ _ _ h1
  · refine World.cell?_setCell_same (u := .int .i64 y) _ _ _ ?_
    rw [World.cell?_setCell_other _ _ _ _ (by simp)]; exact h2
theorem heap_put {W : World} {g k : Nat} (u v : Value) (h : k ≠ g) : ((W.setCell ⟨g, 0, none⟩ u).setCell ⟨g, 1, none⟩ v).heap[k]? = W.heap[k]? := by
  rw [Below.heap_setCell _ _ _ _ h, Below.heap_setCell _ _ _ _ h]
theorem VecAt.other {W : World} {g g' : Nat} {x y : Int} (h : VecAt W g x y) (hne : g ≠ g') (u v : Value) : VecAt ((W.setCell ⟨g', 0, none⟩ u).setCell ⟨g', 1, none⟩ v) g x y :=
  h.same (heap_put u v hne) (by simp)
/-- numbers that lie in block g from its beginning on -/
def NumsAt (W : World) (g : Nat) (l : List Int) : Prop := (∀ j, j < l.length → W.cell? ⟨g, j, none⟩ = some (.int .i64 (l[j]?.getD 0))) ∧ g < W.heap.size
theorem NumsAt.same {W W' : World} {g : Nat} {l : List Int} (h : NumsAt W g l) (e : W'.heap[g]? = W.heap[g]?) (hs : W.heap.size ≤ W'.heap.size) : NumsAt W' g l :=
  ⟨fun j hj => (World.cell?_of_block (a := ⟨g, j, none⟩) e).trans (h.1 j hj), Nat.lt_of_lt_of_le h.2 hs⟩
/-- the list that is made is none of three blocks -/
def Apart (v : Value) (g1 g2 g3 : Nat) : Prop := ∀ k, v.ownBlock = some k → k ≠ g1 ∧ k ≠ g2 ∧ k ≠ g3
theorem Vecs.put {W : World} {base g : Nat} {v : Value} {l : List (Int × Int)} (h : Vecs W base v l) (hne : ∀ k, v.ownBlock = some k → k ≠ g) (x y : Value) : Vecs ((W.setCell ⟨g, 0, none⟩ x).setCell ⟨g, 1, none⟩ y) base v l := by
  have hg : W.grownBy ((W.setCell ⟨g, 0, none⟩ x).setCell ⟨g, 1, none⟩ y) (some g) := ⟨rfl, rfl, rfl, by simp, fun k _ hk => heap_put x y (fun e => hk (by rw [e]))⟩
  exact h.far hg (fun k hk e => hne k hk (by cases e; rfl))

end Go.Proofs.Ytcieihbknfeddaa

/- Lists of numbers that are asked: the program's check of a fraction. -/
namespace Go.Proofs.Ytcieihbknfeddaa
open Go.RowKit

end Go.Proofs.Ytcieihbknfeddaa

/- slices.Backward over a fraction: the iterator's contract. -/
namespace Go.Proofs.Ytcieihbknfeddaa
open Go.RowKit Go.Shelf

attribute [local go_sem] Oper.semAt_some

/-- what a round is handed: a place and a number that a fraction may have -/
abbrev Elem := { x : Nat × Int // rngB x.2 = true }
/-- the k-th that comes: from the last place on -/
def elemAt (l : List Int) (h : ∀ b ∈ l, rngB b = true) (k : Nat) : Elem :=
  if hk : k < l.length then ⟨(l.length - 1 - k, l[l.length - 1 - k]'(by omega)), h _ (List.getElem_mem _)⟩ else ⟨(0, 2), by decide⟩
theorem elemAt_fst {l : List Int} {h : ∀ b ∈ l, rngB b = true} {k : Nat} (hk : k < l.length) : (elemAt l h k).1 = (l.length - 1 - k, l[l.length - 1 - k]?.getD 0) := by
  have h2 : l.length - 1 - k < l.length := by omega
  simp [elemAt, hk, h2]
def upTo {α : Type} (f : Nat → α) (k : Nat) : List α := (List.range k).map f
theorem upTo_succ {α : Type} (f : Nat → α) (k : Nat) : upTo f (k + 1) = upTo f k ++ [f k] := by simp [upTo, List.range_succ]
theorem upTo_len {α : Type} (f : Nat → α) (k : Nat) : (upTo f k).length = k := by simp [upTo]

/-- What a round keeps: all blocks below n₀, and the box of the slice that is ranged over. -/
def KeepBox (n₀ Bs : Nat) (A B : World) : Prop := Below n₀ A B ∧ (∀ v, A.cell? ⟨Bs, 0, none⟩ = some v → B.cell? ⟨Bs, 0, none⟩ = some v)
theorem KeepBox.refl (n₀ Bs : Nat) (A : World) : KeepBox n₀ Bs A A := ⟨Below.refl _ _, fun _ h => h⟩
theorem KeepBox.trans {n₀ Bs : Nat} {A B C : World} (h : KeepBox n₀ Bs A B) (k : KeepBox n₀ Bs B C) : KeepBox n₀ Bs A C := ⟨h.1.trans k.1, fun v e => k.2 v (h.2 v e)⟩
theorem KeepBox.put {n₀ Bs : Nat} {w : World} (hn : n₀ ≤ w.heap.size) (W : World) (l : Nat) (o o' : Obj) (hl : w.heap.size ≤ l) (h : W.heap[l]? = some o) (ho : o.isCells = false) (hw : o.isWalk = false) : KeepBox n₀ Bs W (W.putObj l o') :=
  ⟨belowK_b hn W l o o' hl h ho hw, fun _ hv => cell_kept hv (grownBy_putObj' W l o') (fun r e => by cases e; exact ⟨o, h, ho⟩)⟩
theorem KeepBox.set {n₀ Bs : Nat} {A B : World} (h : KeepBox n₀ Bs A B) {g : Nat} (v : Value) (hg : n₀ ≤ g) (hne : g ≠ Bs) : KeepBox n₀ Bs A (B.setCell ⟨g, 0, none⟩ v) :=
  ⟨h.1.setCell (p := ⟨g, 0, none⟩) hg v, fun u e => by rw [World.cell?_setCell_far _ _ _ _ hne]; exact h.2 u e⟩

end Go.Proofs.Ytcieihbknfeddaa

/- The whole base: the program's iterator. -/
namespace Go.Proofs.Ytcieihbknfeddaa
open Go.RowKit Go.Shelf

attribute [local go_sem] Oper.semAt_some

/-- a cone in block g -/
def ConeAt (W : World) (g : Nat) (a b c d : Int) : Prop := (W.cell? ⟨g, 0, none⟩ = some (.int .i64 a) ∧ W.cell? ⟨g, 1, none⟩ = some (.int .i64 b) ∧ W.cell? ⟨g, 2, none⟩ = some (.int .i64 c) ∧ W.cell? ⟨g, 3, none⟩ = some (.int .i64 d)) ∧ g < W.heap.size
theorem ConeAt.same {W W' : World} {g : Nat} {a b c d : Int} (h : ConeAt W g a b c d) (e : W'.heap[g]? = W.heap[g]?) (hs : W.heap.size ≤ W'.heap.size) : ConeAt W' g a b c d := by
  obtain ⟨⟨h1, h2, h3, h4⟩, h5⟩ := h
  exact ⟨⟨(World.cell?_of_block (a := ⟨g, 0, none⟩) e).trans h1, (World.cell?_of_block (a := ⟨g, 1, none⟩) e).trans h2, (World.cell?_of_block (a := ⟨g, 2, none⟩) e).trans h3, (World.cell?_of_block (a := ⟨g, 3, none⟩) e).trans h4⟩, Nat.lt_of_lt_of_le h5 hs⟩

end Go.Proofs.Ytcieihbknfeddaa

/- The whole base: what the range over the program's iterator keeps; the model's ConeBase. -/
namespace Go.Proofs.Ytcieihbknfeddaa
open Go.RowKit Go.Shelf

def gateV (b : Bool) (l : List (Int × Int)) : List (Int × Int) := if b then l else []
theorem gateV_len {b : Bool} {l : List (Int × Int)} {n : Nat} (h : b = true → l.length ≤ n) : (gateV b l).length ≤ n := by
  cases b
  · exact Nat.zero_le _
  · exact h rfl
theorem Vecs.at0 (w : World) (base : Nat) (g : Nat) (t : TypeId) (h : w.heap[g]? = some (.cells #[] t)) (hb : base ≤ g) (ht : t = 51) : Vecs w base (.slice (some ⟨g, 0, none⟩) 0 0) [] := by
  subst ht
  exact ⟨rfl, .inr ⟨g, 0, #[], rfl, hb, h, Nat.le_refl _, by decide, rfl, rfl⟩⟩
theorem Vecs.empty (w : World) : Vecs (w.alloc (.cells #[] 51)) w.heap.size (.slice (some ⟨w.heap.size, 0, none⟩) 0 0) [] :=
  Vecs.at0 _ _ _ _ (heap_alloc_new w _) (Nat.le_refl _) rfl
theorem grown_set (W : World) (g o : Nat) (v : Value) : W.grownBy (W.setCell ⟨g, o, none⟩ v) (some g) :=
  ⟨rfl, rfl, rfl, by simp, fun k _ hk => Below.heap_setCell W ⟨g, o, none⟩ v k (fun e => hk (by rw [e]))⟩
theorem Vecs.cells {w : World} {base : Nat} {v : Value} {l : List (Int × Int)} (h : Vecs w base v l) : ∀ k, v.ownBlock = some k → ∃ o, w.heap[k]? = some o ∧ o.isCells = true := by
  intro k hk
  rcases h.2 with ⟨rfl, _⟩ | ⟨g, cap, cur, rfl, _, h4, _⟩
  · cases hk
  · have e : g = k := by simpa [Value.ownBlock] using hk
    subst e
    exact ⟨_, h4, rfl⟩
/-- what the caller keeps: its list, in a block B of its own; the iterator's variables lie elsewhere; Bs holds the cone -/
def BaseI (w : World) (B Bs : Nat) (X : Nat → Prop) (pre : List (Int × Int)) (V : World) : Prop :=
  (∃ v, Boxed V B 40 v ∧ Vecs V w.heap.size v pre ∧ ∀ k, v.ownBlock = some k → ¬ X k ∧ k ≠ B ∧ k ≠ Bs) ∧ (∀ k, X k → w.heap.size ≤ k ∧ k ≠ B) ∧ Below w.heap.size w V
theorem baseI_abides (w : World) (B Bs : Nat) : Abides (BaseI w B Bs) where
  less := by
    rintro X Y pre A ⟨⟨v, h1, h2, h3⟩, h4, h5⟩ hY
    exact ⟨⟨v, h1, h2, fun k hk => ⟨fun hx => (h3 k hk).1 (hY k hx), (h3 k hk).2⟩⟩, fun k hk => h4 k (hY k hk), h5⟩
  fresh := by
    rintro X pre A ⟨⟨v, h1, h2, h3⟩, h4, h5⟩
    have hs := h5.size
    have hl := h1.lt
    refine ⟨⟨v, h1, h2, fun k hk => ⟨fun hx => ?_, (h3 k hk).2⟩⟩, fun k hk => ?_, h5⟩
    · rcases hx with hx | hx
      · exact (h3 k hk).1 hx
      · have := (h2.block k hk).2
        omega
    · rcases hk with hx | hx
      · exact h4 k hx
      · exact ⟨by omega, by omega⟩
  grows := by
    rintro X pre A A' ⟨⟨v, h1, h2, h3⟩, h4, h5⟩ hg
    exact ⟨⟨v, h1.kept hg (by simp), h2.far hg (fun k _ e => by cases e), h3⟩, h4, h5.grown hg h5.size (fun k e => by cases e)⟩
  own := by
    rintro X pre A g o u ⟨⟨v, h1, h2, h3⟩, h4, h5⟩ hx
    obtain ⟨hg, hne⟩ := h4 g hx
    have hgr := grown_set A g o u
    exact ⟨⟨v, h1.kept hgr (fun e => hne (by cases e; rfl)), h2.far hgr (fun k hk e => (h3 k hk).1 (by cases e; exact hx)), h3⟩, h4, h5.grown hgr h5.size (fun k e => by cases e; exact hg)⟩
theorem baseI_put {w : World} {B Bs : Nat} {X : Nat → Prop} {pre : List (Int × Int)} {A : World} {l : Nat} {o : Obj} (o' : Obj) (h : BaseI w B Bs X pre A) (hl : w.heap.size ≤ l) (ho : A.heap[l]? = some o) (hc : o.isCells = false) : BaseI w B Bs X pre (A.putObj l o') := by
  obtain ⟨⟨v, h1, h2, h3⟩, h4, h5⟩ := h
  have hgr := grownBy_putObj' A l o'
  refine ⟨⟨v, h1.kept hgr (fun e => ?_), h2.far hgr (fun k hk e => ?_), h3⟩, h4, h5.grown hgr h5.size (fun k e => by cases e; exact hl)⟩
  · cases e
    rw [show A.heap[B]? = _ from h1] at ho
    cases ho
    cases hc
  · cases e
    obtain ⟨o2, e2, hc2⟩ := h2.cells _ hk
    rw [e2] at ho
    cases ho
    rw [hc2] at hc
    cases hc
end Go.Proofs.Ytcieihbknfeddaa

/- The whole base: the program's ConeBase. -/
namespace Go.Proofs.Ytcieihbknfeddaa
open Go.RowKit Go.Shelf

attribute [local go_sem] Oper.semAt_some

end Go.Proofs.Ytcieihbknfeddaa

/- Resolutions: the program: the vectors of all whole bases. -/
namespace Go.Proofs.Ytcieihbknfeddaa
open Go.RowKit Go.Shelf

attribute [local go_sem] Oper.semAt_some

theorem KeepsFrom.of {B : Nat} {W W' : World} (h : KeepsOthers W W') : KeepsFrom B W W' := h.from B

end Go.Proofs.Ytcieihbknfeddaa
