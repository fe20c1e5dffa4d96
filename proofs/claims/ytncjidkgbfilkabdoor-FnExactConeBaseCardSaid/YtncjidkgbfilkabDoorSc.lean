/- Slices of whole numbers: marked, held: for whatever slice the call owns. -/
import Derived.Test.YtncjidkgbfilkabDoorSb
namespace Go.Proofs.YtncjidkgbfilkabDoor
open Go.RowKit

theorem Ints.as {w : World} {b g c n : Nat} {l : List Int} (hn : n = l.length) (h : w.ownsRow b 3 1 (.slice (some ⟨g, 0, none⟩) n c) n (intsV l)) : Ints w b (.slice (some ⟨g, 0, none⟩) n c) l := by
  subst hn; exact h
def MarkedV (w : World) (b : Nat) (v : Value) (n : Nat) (e : Ending) (w' : World) : Prop := e = .returned (.int .i64 ((1 + n : Nat) : Int)) ∧ Ints w' b v (marks 1 n) ∧ w.grownBy w' v.ownBlock
theorem markIntS_own (v : Value) (b : Nat) (l : List Int) (w : World) (I : Ints w b v l) (hm : l.length ≤ 1152921504606846976) :
    Calls Tryd.prog 22 #[v, .int .i64 1] w (MarkedV w b v l.length) := by
  have h1 : (1 : Int) = ((1 : Nat) : Int) := rfl
  rw [h1]
  rcases I.form with ⟨rfl, a, c, rfl⟩ | ⟨hne, g, c, rfl, _, _, _⟩
  · refine Calls.mono (markIntS_nil a c 1 w) ?_
    rintro e w' ⟨rfl, rfl⟩
    exact ⟨rfl, I, World.grownBy.refl _ _⟩
  · refine Calls.mono (markIntS_row g c b 1 l.length l w rfl I (by omega) hm) ?_
    rintro e w' ⟨rfl, h2, h3⟩
    exact ⟨rfl, Ints.as (marks_len 1 l.length).symm h2, h3⟩
theorem heldIntS_own (v : Value) (b n : Nat) (w : World) (I : Ints w b v (marks 1 n)) (hm : n ≤ 1152921504606846976) :
    Calls Tryd.prog 23 #[v, .int .i64 1] w fun e w' => e = .returned (.int .i64 ((1 + n : Nat) : Int)) ∧ w = w' := by
  have h1 : (1 : Int) = ((1 : Nat) : Int) := rfl
  rw [h1]
  rcases I.form with ⟨h0, a, c, rfl⟩ | ⟨hne, g, c, rfl, _, _, _⟩
  · have hn : n = 0 := by have := marks_len 1 n; rw [h0] at this; exact this.symm
    subst hn
    exact heldIntS_nil a c 1 w
  · rw [marks_len] at I ⊢
    have I' : w.ownsRow b 3 1 (.slice (some ⟨g, 0, none⟩) n c) n (intsV (marks 1 n)) := by
      have := I; unfold Ints at this; rwa [marks_len] at this
    exact heldIntS_row g c b 1 n w I' (by omega) hm
/-- what a write into one block of the call's own leaves of the rest -/
theorem grown_below {w w' : World} {v : Value} {b : Nat} (hg : w.grownBy w' v.ownBlock) (hb : b ≤ w.heap.size) (hv : ∀ k, v.ownBlock = some k → b ≤ k) : Below b w w' := (Below.refl b w).grown hg hb hv
end Go.Proofs.YtncjidkgbfilkabDoor
