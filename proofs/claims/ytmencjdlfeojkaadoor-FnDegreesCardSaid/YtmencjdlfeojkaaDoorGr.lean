/- Fans: the rays. -/
import Derived.Test.YtmencjdlfeojkaaDoorB7
import Derived.Test.YtmencjdlfeojkaaDoorB5
import Derived.Maps.AppendAt
namespace Go.Proofs.YtmencjdlfeojkaaDoor
open Go.RowKit Go.Shelf

attribute [local go_sem] Oper.semAt_some

/-- a range over the links -/
theorem wpIn_links {n : Nat} {gop : Operand} {ps : Array Tmp} {assign body : Code} {Q : Exit → Act → World → Prop} {a : Act} {w : World} (h2 : 2 ≤ n) {Bf n₀ base g : Nat} {ns : List Node}
    (hg : a.eval gop = .func (.func 90) #[] #[.pointer (some ⟨Bf, 0, none⟩)]) (hB : w.cell? ⟨Bf, 0, none⟩ = some (.pointer (some ⟨g, 0, none⟩))) (hn₀ : n₀ ≤ w.heap.size)
    (hF : FanAt w base g ns) (hlow : ∀ p ∈ ns, p.1 < n₀) (hm : ns.length ≤ 1000) (hps : 1 = ps.size)
    (I : List Nat → World → Prop) (Ix : Code → List Nat → World → Prop) (hI : OwnFrom w.heap.size I) (hIx : ∀ c, OwnFrom w.heap.size (Ix c)) (h0 : I [] w) (a₁ : Nat → Act)
    (hassign : ∀ (l : Nat) (x : Nat) (W : World) (K : Act → World → Prop), K (a₁ x) W →
      assign.wpIn (Fence.wide.inRound l) (n - 1 - 1) Tryd.prog (Exit.then K (fun _ _ _ => False)) { tmps := (ps.zip #[.pointer (some ⟨(cyc ns x).1, 0, none⟩)]).foldl (fun t (p, v) => t.setIfInBounds p v) a.tmps, defers := [] } W)
    (hbody : ∀ (l : Nat) (pre : List Nat) (x : Nat) (W : World), I pre W → pre.length < ns.length → body.wpIn (Fence.wide.inRound l) (n - 1 - 1) Tryd.prog (ownPostK (Below n₀) I Ix (pre ++ [x]) W) (a₁ x) W)
    (hdone : ∀ (D : Nat) (W : World), w.heap.size ≤ D → I (List.range ns.length) W → W.heap[D]? = some (.deferred (some [])) → Q .normal { a with defers := { target := .collected D, args := #[] } :: a.defers } W)
    (hstop : ∀ (D : Nat) (c : Code) (pre : List Nat) (W : World), w.heap.size ≤ D → pre <+: List.range ns.length → Ix c pre W → W.heap[D]? = some (.deferred (some [])) → c.wpIn Fence.wide n Tryd.prog Q { a with defers := { target := .collected D, args := #[] } :: a.defers } W) :
    (Code.rangeFunc gop ps assign body).wpIn Fence.wide n Tryd.prog Q a w :=
  wpIn_rangeFunc_ownF rfl (by omega) hg trivial (enters_of Tryd.func90 (by kernel_rfl) rfl) (links_stops (n - 1) (by omega) Bf n₀ base g ns w hB hn₀ hF hlow hm)
    belowK_t (belowK_b hn₀) (Below.refl _ _) (fun _ => hps) I Ix hI hIx h0 a₁ hassign hbody (fun D xs W hD hS => by subst hS; exact hdone D W hD) hstop

/-- a box B holds a list of vectors of the call's own -/
def VecsI (w : World) (B : Nat) (f : List Nat → List V2) (pre : List Nat) (W : World) : Prop :=
  (∃ v, Boxed W B 27 v ∧ W.ownsRow w.heap.size 36 2 v (f pre).length (intsV (flat (f pre))) ∧ True) ∧ Below w.heap.size w W
theorem vecsI_own (w : World) (B : Nat) (f : List Nat → List V2) {k : Nat} (h : w.heap.size ≤ k) : OwnFrom k (VecsI w B f) :=
  OwnFrom.and (Own.from (holdsRow_own _ _ _ _ _ (fun pre => (f pre).length) (fun pre => intsV (flat (f pre))) (fun _ _ => True)) _) (ownFrom_below (Nat.le_refl _) h)
theorem Vecs.putObj {W : World} {base : Nat} {v : Value} {l : List V2} (h : Vecs W base v l) {D : Nat} {o : Obj} (o' : Obj) (hl : W.heap[D]? = some o) (ho : o.isCells = false) : Vecs (W.putObj D o') base v l := ownsRow_putObj h o' hl ho
def raysAt (ns : List Node) (pre : List Nat) : List V2 := pre.map fun i => (cyc ns i).2
theorem raysAt_snoc (ns : List Node) (pre : List Nat) (x : Nat) : raysAt ns (pre ++ [x]) = raysAt ns pre ++ [((cyc ns x).2.1, (cyc ns x).2.2)] := by simp [raysAt]
theorem raysAt_all (ns : List Node) : raysAt ns (List.range ns.length) = rays ns := by
  have := congrArg (List.map (·.2)) (list_cyc ns)
  rw [List.map_map] at this
  exact this
end Go.Proofs.YtmencjdlfeojkaaDoor
