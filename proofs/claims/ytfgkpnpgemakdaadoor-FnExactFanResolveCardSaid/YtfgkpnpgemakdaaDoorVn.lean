/- A range over an iterator that keeps variables of its own (XVf), within a round of another loop: the caller's law. -/
import Derived.Test.YtfgkpnpgemakdaaDoorVf
namespace Go.Proofs.YtfgkpnpgemakdaaDoor
open Go.RowKit Go.Shelf

theorem wpIn_rangePrivN {α : Type} {n : Nat} {P : Program} {g : Operand} {ps : Array Tmp} {assign body : Code} {Q : Exit → Act → World → Prop} {a : Act} {w : World}
    {l₀ : Nat} {r₀ : Loop} (hl₀ : w.heap[l₀]? = some (.loop r₀))
    (h1 : 1 ≤ n) {gf : Nat} {lb : Array Value} (hg : a.eval g = .func (.func gf) #[] lb) (eg : ∀ args w, (callFunc gf args).run P w = .ok (.enter gf args) w)
    {encs : α → Array Value} {S : List α → Prop} {N Bs : Nat} (hBs : Bs < w.heap.size) (hseq : PrivSeq (n - 1) P gf lb encs S N Bs w) (hps : ∀ x, (encs x).size = ps.size)
    (I : (Nat → Prop) → List α → World → Prop) (hI : Abides I)
    (hIo : ∀ X pre A l o o', I X pre A → w.heap.size ≤ l → A.heap[l]? = some o → o.isCells = false → I X pre (A.putObj l o'))
    (h0 : I (fun k => w.heap.size ≤ k) [] w) (a₁ : α → Nat → Act) (ob : α → Obj)
    (hassign : ∀ (l : Nat) (x : α) (W : World) (K : Act → World → Prop), K (a₁ x W.heap.size) (W.alloc (ob x)) →
      assign.wpIn (Fence.wide.inRound l) (n - 1 - 1) P (Exit.then K (fun _ _ _ => False)) { tmps := (ps.zip (encs x)).foldl (fun t (p, v) => t.setIfInBounds p v) a.tmps, defers := [] } W)
    (hbody : ∀ (l : Nat) (X : Nat → Prop) (pre : List α) (x : α) (V : World) (b : Nat), I X pre V → (∀ k, X k → k < V.heap.size) → w.heap.size ≤ b → V.heap[b]? = some (ob x) → pre.length < N →
      body.wpIn (Fence.wide.inRound l) (n - 1 - 1) P (PrivPost X Bs I (pre ++ [x]) V) (a₁ x b) V)
    (hdone : ∀ (X : Nat → Prop) (xs : List α) (W : World), S xs → I X xs W → Q .normal a W) :
    (Code.rangeFunc g ps assign body).wpIn (Fence.wide.inRound l₀) n P Q a w := by
  refine wpIn_rangeFunc ?_
  intro fn hfn
  rw [show (Fence.wide.inRound l₀).round = some l₀ from rfl]
  obtain ⟨st, hst⟩ : ∃ st : LoopState → Option Code → Loop, st = fun s pe => { state := s, pending := pe, fn := fn, tmps := a.tmps, params := ps, assign := assign, body := body, defers := r₀.defers } := ⟨_, rfl⟩
  obtain ⟨W1, hW1⟩ : ∃ W1, W1 = w.alloc (.loop (st .ready none)) := ⟨_, rfl⟩
  have hs1 : W1.heap.size = w.heap.size + 1 := by rw [hW1]; simp
  have hL : W1.heap[w.heap.size]? = some (.loop (st .ready none)) := by
    rw [hW1]
    exact World.alloc_heap_new w (.loop (st .ready none))
  have hgr : I (fun k => W1.heap.size ≤ k) [] W1 := by
    have h2 : I (fun k => w.heap.size ≤ k) [] W1 := by
      rw [hW1]
      exact hI.grows _ _ _ _ h0 (World.grownBy_alloc w _ none)
    exact hI.less _ _ _ _ h2 (fun k hk => by omega)
  have hb1 : Below w.heap.size w W1 := by
    rw [hW1]
    exact (Below.refl _ w).alloc (Nat.le_refl _) _
  refine ⟨w.heap.size, [], W1, { target := .fn (.func gf) lb, args := #[.func (.yield w.heap.size) #[] #[]] }, W1, gf,
    #[.func (.yield w.heap.size) #[] #[]] ++ lb, W1, ?_, ?_, ?_, ?_, fun _ => h1, ?_⟩
  · rw [hW1, hst]; exact run_enterLoop_inner hl₀ _ _ _ _ _
  · simp only [resolve, hg]
    simp [go_sem]
  · intro f' _; trivial
  · simp [invoke, go_sem, eg]
  refine (CallsIn.inRound l₀ (hseq w.heap.size (fun X pre W => I X pre W ∧ (∀ k, X k → w.heap.size + 1 ≤ k) ∧ W.heap[w.heap.size]? = some (.loop (st .ready none))) W1 hb1 ?_ ?_ ?_)).mono ?_
  · refine ⟨?_, ?_, ?_, ?_⟩
    · rintro X Y pre A ⟨hi, hx, hl⟩ hYX
      exact ⟨hI.less _ _ _ _ hi hYX, fun k hk => hx k (hYX k hk), hl⟩
    · rintro X pre A ⟨hi, hx, hl⟩
      have hlA := (Array.getElem?_eq_some_iff.1 hl).1
      exact ⟨hI.fresh _ _ _ hi, fun k hk => hk.elim (hx k) (fun h => by omega), hl⟩
    · rintro X pre A B ⟨hi, hx, hl⟩ hgw
      have hlA := (Array.getElem?_eq_some_iff.1 hl).1
      exact ⟨hI.grows _ _ _ _ hi hgw, hx, (hgw.block _ hlA (by simp)).trans hl⟩
    · rintro X pre A k o v ⟨hi, hx, hl⟩ hk
      have := hx k hk
      exact ⟨hI.own _ _ _ _ _ _ hi hk, hx, (Below.heap_setCell A ⟨k, o, none⟩ v _ (show w.heap.size ≠ k by omega)).trans hl⟩
  · rintro X pre x W ⟨hi, hx, hl⟩ hXW hlen
    have hlt : w.heap.size < W.heap.size := (Array.getElem?_eq_some_iff.1 hl).1
    have hy := run_yield (P := P) (args := encs x) hl (by rw [hst]; exact hps x)
    rw [hst] at hy
    refine ⟨fn, _, assign, body, hy, roundIn_of_wpIn hfn (hassign _ x W _ ?_)⟩
    have hl1 : (W.alloc (ob x)).heap[w.heap.size]? = some (.loop (st .ready none)) := (Below.heap_alloc W _ _ hlt).trans hl
    refine ⟨_, run_beginRound hl1 (by rw [hst]), ?_⟩
    obtain ⟨V, hV⟩ : ∃ V, V = (W.alloc (ob x)).putObj w.heap.size (.loop { st .ready none with state := .busy }) := ⟨_, rfl⟩
    rw [← hV]
    have hiV : I X pre V := by
      rw [hV]
      exact hIo _ _ _ _ _ _ (hI.grows _ _ _ _ hi (World.grownBy_alloc W _ none)) (Nat.le_refl _) hl1 rfl
    have hob : V.heap[W.heap.size]? = some (ob x) := by
      rw [hV, heap_putObj_other _ (by omega)]
      exact World.alloc_heap_new W _
    have hlV : V.heap[w.heap.size]? = some (.loop { st .ready none with state := .busy }) := by
      rw [hV]
      exact World.putObj_heap_same (by simp; omega)
    have hkV : ∀ k, k < W.heap.size → k ≠ w.heap.size → V.heap[k]? = W.heap[k]? := fun k hk hne => by
      rw [hV, heap_putObj_other _ hne]
      exact Below.heap_alloc W _ k hk
    have hsV : V.heap.size = W.heap.size + 1 := by rw [hV]; simp [World.putObj]
    refine wpIn_mono (hbody _ X pre x V W.heap.size hiV (fun k hk => by have := hXW k hk; omega) (by omega) hob hlen) ?_
    rintro e a3 V3 hp
    cases e with
    | normal =>
      obtain ⟨hk3, hp3, hi3⟩ := hp
      have hl3 := hk3.same _ _ hlV rfl
      have hend := run_endRound (P := P) none hl3
      have hfin : ({ ({ st .ready none with state := .busy } : Loop) with state := if (none : Option Code).isNone then .ready else .done, pending := none } : Loop) = st .ready none := by rw [hst]; rfl
      rw [hfin] at hend
      refine ⟨_, _, hend, rfl, ⟨hIo _ _ _ _ _ _ hi3 (Nat.le_refl _) hl3 rfl, hx, World.putObj_heap_same (Array.getElem?_eq_some_iff.1 hl3).1⟩, ?_⟩
      refine ⟨fun k h2 => ?_, ?_, ?_⟩
      · have := hx k h2
        have := hXW k h2
        rw [heap_putObj_other _ (by omega), hp3.1 k h2]
        exact hkV k (by omega) (by omega)
      · rw [heap_putObj_other _ (by omega), hp3.2.1]
        exact hkV Bs (by omega) (by omega)
      · have := hp3.2.2
        simp [World.putObj]
        omega
    | ret => exact hp.elim
    | exit id => exact hp.elim
    | goto t => exact hp.elim
    | panic ch => exact hp.elim
    | outgrown => exact hp.elim
  · exact ⟨hgr, fun k hk => by omega, hL⟩
  · rintro e W2 ⟨⟨v, rfl⟩, X, xs, hS, hi, hx, hl⟩
    have hend := run_endLoop (P := P) hl (by rw [hst]; simp)
    refine ⟨none, _, by rw [hend, hst], ?_⟩
    exact hdone X xs _ hS (hIo _ _ _ _ _ _ hi (Nat.le_refl _) hl rfl)
end Go.Proofs.YtfgkpnpgemakdaaDoor
