/- Regions that draw their order: in a round, from the plain walk; an operation by a law that speaks of lists. -/
import Derived.Test.YtgaeibibeekclaaDoorB1
import Derived.RangeFuncNested
import Derived.RegionTactic
import Derived.StillTail
import Derived.OrdersIn
import Derived.AtR
namespace Go.Proofs.YtgaeibibeekclaaDoor
open Go.RowKit

theorem rows_round {l n : Nat} {P : Program} {row : String} {args : Array Value} {w : World} {R : Value → World → Prop} (h : Rows P row args w R) : RowsIn (Fence.wide.inRound l) n P row args w R :=
  fun c cs _ => let ⟨v, w', r, s⟩ := h c cs; ⟨v, w', r, stepsIn_wide.2 s⟩
theorem upon_round {l n : Nat} {P : Program} {o : Oper} {a : Act} {K : Act → World → Prop} {Q : Exit → Act → World → Prop} {r : Result Next} (h : o.upon P a K Q r) :
    o.uponIn (Fence.wide.inRound l) n P a K Q r := by
  cases r with
  | ok x w' =>
    cases x
    case enter f args =>
      refine ⟨fun h0 => absurd h0 Bool.false_ne_true, CallsIn.inRound l (callsIn_wide.2 (Calls.mono h ?_))⟩
      rintro e w'' he
      cases e <;> exact he
    case row row args => exact ⟨fun h0 => absurd h0 Bool.false_ne_true, rows_round h⟩
    all_goals first | exact h | exact h.elim
  | halt x w' => cases x <;> exact h
def noDefer (ops : Array Oper) : Prop := ∀ (j : Nat) (o : Oper), ops[j]? = some o → ∀ c, o.op ≠ .defer c
theorem wpOp_round {l n : Nat} {P : Program} {ops : Array Oper} {Q : Exit → Act → World → Prop} {i : Nat} {K K' : Act → World → Prop} {a : Act} {w : World}
    (hd : noDefer ops) (hL : ¬ LetsOut Q) (hK : ∀ a w, K a w → K' a w) (h : wpOp P ops Q i K a w) : wpOpIn (Fence.wide.inRound l) n P ops Q i K' a w := by
  have h2 := wpOp_mono hK h
  unfold wpOp at h2
  unfold wpOpIn
  cases ho : ops[i]? with
  | none => simp only [ho] at h2; exact h2
  | some o =>
    simp only [ho] at h2
    show if Region.wanted o (yielded ops a.tmps) then o.wpIn (Fence.wide.inRound l) n P a w K' Q else (∀ f, o.about P w a.eval = some f → (Fence.wide.inRound l).fn f) ∧ K' (a.put o.dst undef) w
    by_cases hw : Region.wanted o (yielded ops a.tmps) = true
    · rw [if_pos hw] at h2 ⊢
      rcases h2 with h2 | ⟨_, h2⟩
      · refine ⟨fun _ _ => trivial, ?_⟩
        rw [Oper.semAt_eq _ _ _ (hd i o ho)]
        exact upon_round h2
      · exact absurd h2 hL
    · rw [if_neg hw] at h2 ⊢
      exact ⟨fun _ _ => trivial, h2⟩
theorem wpAny_round {l n : Nat} {P : Program} {md : Region.Mode} {ops : Array Oper} {Q : Exit → Act → World → Prop} (hd : noDefer ops) (hL : ¬ LetsOut Q) :
    ∀ (fuel : Nat) (listed : Array Bool) (a : Act) (w : World), wpAny P md ops Q fuel listed a w → wpAnyIn (Fence.wide.inRound l) n P md ops Q fuel listed a w
  | 0, _, _, _, h => h
  | fuel + 1, _, _, _, h => ⟨h.1, fun i hi => wpOp_round hd hL (fun a' w' h' => wpAny_round hd hL fuel _ a' w' h') (h.2 i hi)⟩
/-- a region that draws its order, in a round, by the plain walk -/
theorem region_round {l n id : Nat} {P : Program} {ops : Array Oper} {Q : Exit → Act → World → Prop} {a : Act} {w : World} (hm : P.follows .mixedOrders = true) (hd : noDefer ops) (hL : ¬ LetsOut Q)
    (h : wpAny P .any ops Q ops.size (Array.replicate ops.size false) a w.drew) : (Code.region id ops true).wpIn (Fence.wide.inRound l) n P Q a w :=
  wpIn_region_any hm (wpAny_round hd hL _ _ _ _ h)
theorem undrew {w w' : World} (h : Below w.drew.heap.size w.drew w') : Below w.heap.size w w' := ⟨h.os, h.tape, h.output, h.size, h.block⟩
def notDefer : Op → Bool
  | .defer _ => false
  | _ => true
theorem noDefer_of {ops : Array Oper} (h : ops.all (fun o => notDefer o.op) = true) : noDefer ops := by
  intro j o hj c e
  obtain ⟨hlt, hk⟩ := Array.getElem?_eq_some_iff.1 hj
  have := Array.all_eq_true.1 h j hlt
  rw [hk, e] at this
  cases this
theorem wpAny_seq {P : Program} {md : Region.Mode} {ops : List Oper} {Q : Exit → Act → World → Prop} (k : Nat) {fuel : Nat} {listed : Array Bool} {a : Act} {w : World} (hf : fuel = ops.length - k)
    (hB : Region.seqB md ops.toArray (ops.length - k) k listed = true) (h : wpList P ops.toArray Q (ops.drop k) a w) : wpAny P md ops.toArray Q fuel listed a w := by
  subst hf
  have e : (ops.drop k).length = ops.length - k := List.length_drop
  have := wpAny_of_seq (md := md) (Q' := Q) (ops.drop k) k listed a w (fun j => by simp [List.getElem?_drop]) (by rw [e]; exact hB) h
  rwa [e] at this
/-- one operation as a list of one: for the laws that speak of lists -/
theorem step_list {P : Program} {ops : Array Oper} {o : Oper} {a : Act} {w : World} {K : Act → World → Prop} {Q : Exit → Act → World → Prop} {E : Prop} (hL : ¬ LetsOut Q) (hw : Region.wanted o (yielded ops a.tmps) = true)
    (h : wpList P ops (Exit.then K Q) [o] a w) : if Region.wanted o (yielded ops a.tmps) = true then Oper.wp P o a w K Q else E := by
  rw [if_pos hw]
  unfold wpList at h
  rw [if_pos hw] at h
  have hL' : ¬ LetsOut (Exit.then K Q) := fun ⟨a, w, h⟩ => hL ⟨a, w, h⟩
  rcases h with h | ⟨_, h⟩
  · unfold Oper.wp at h ⊢
    generalize (execOp a.eval o).run P w = r at h ⊢
    cases r with
    | ok x w' =>
      cases x
      case enter f args =>
        refine Calls.mono h ?_
        rintro e w'' he
        cases e
        · exact he
        · exact he
        · exact absurd he hL'
      all_goals exact h
    | halt x w' => cases x <;> exact h
  · exact absurd h hL'
end Go.Proofs.YtgaeibibeekclaaDoor
