/- The draws of chapter 1: matrices. -/
import Derived.Test.YtohojjoediibhaaDoorBc
namespace Go.Proofs.YtohojjoediibhaaDoor
open Go.RowKit

/-- Some matrix of four numbers; nothing below block B has turned. -/
def DrewMat (w : World) (B : Nat) (e : Ending) (w' : World) : Prop := ∃ a b c d : Int, e = .returned (.agg #[.int .i64 (a), .int .i64 (b), .int .i64 (c), .int .i64 (d)]) ∧ Below B w w'
/-- how great the numbers may be behind k rounds -/
def threes : Nat → Int
  | 0 => 1
  | 1 => 3
  | 2 => 9
  | _ => 27
theorem threes_succ {k : Nat} (h : k < 3) : threes (k + 1) = 3 * threes k ∧ 1 ≤ threes k ∧ threes k ≤ 9 := by
  match k, h with
  | 0, _ => decide
  | 1, _ => decide
  | 2, _ => decide
theorem threes_le (k : Nat) : 1 ≤ threes k ∧ threes k ≤ 27 := by
  match k with
  | 0 => decide
  | 1 => decide
  | 2 => decide
  | k + 3 => exact ⟨by show (1 : Int) ≤ 27; decide, by show (27 : Int) ≤ 27; decide⟩
theorem mul_two {k c M : Int} (hk : -2 ≤ k ∧ k ≤ 2) (hc : -M ≤ c ∧ c ≤ M) : -(2 * M) ≤ k * c ∧ k * c ≤ 2 * M := by
  obtain h | h | h | h | h : k = -2 ∨ k = -1 ∨ k = 0 ∨ k = 1 ∨ k = 2 := by omega
  all_goals (subst h; omega)
def MatAt (W : World) (g : Nat) (a b c d : Int) : Prop := (W.cell? ⟨g, 0, none⟩ = some (.int .i64 a) ∧ W.cell? ⟨g, 1, none⟩ = some (.int .i64 b) ∧ W.cell? ⟨g, 2, none⟩ = some (.int .i64 c) ∧ W.cell? ⟨g, 3, none⟩ = some (.int .i64 d)) ∧ (W.frozen? ⟨g, 0, none⟩ = false ∧ W.frozen? ⟨g, 1, none⟩ = false ∧ W.frozen? ⟨g, 2, none⟩ = false ∧ W.frozen? ⟨g, 3, none⟩ = false)
theorem MatAt.kept {W W' : World} {g : Nat} {a b c d : Int} (h : MatAt W g a b c d) (k : ∀ o, W'.cell? ⟨g, o, none⟩ = W.cell? ⟨g, o, none⟩) (f : ∀ o, W'.frozen? ⟨g, o, none⟩ = W.frozen? ⟨g, o, none⟩) : MatAt W' g a b c d := by
  unfold MatAt
  simp only [k, f]
  exact h
theorem MatAt.put {W : World} {g : Nat} {a b c d : Int} (h : MatAt W g a b c d) (x y z u : Int) :
    MatAt ((((W.setCell ⟨g, 0, none⟩ (.int .i64 x)).setCell ⟨g, 1, none⟩ (.int .i64 y)).setCell ⟨g, 2, none⟩ (.int .i64 z)).setCell ⟨g, 3, none⟩ (.int .i64 u)) g x y z u := by
  obtain ⟨⟨h0, h1, h2, h3⟩, f0, f1, f2, f3⟩ := h
  refine ⟨⟨?_, ?_, ?_, ?_⟩, by simp [*], by simp [*], by simp [*], by simp [*]⟩
  · rw [World.cell?_setCell_other _ _ _ _ (by simp), World.cell?_setCell_other _ _ _ _ (by simp), World.cell?_setCell_other _ _ _ _ (by simp)]
    exact World.cell?_setCell_same _ _ _ h0
  · rw [World.cell?_setCell_other _ _ _ _ (by simp), World.cell?_setCell_other _ _ _ _ (by simp)]
    refine World.cell?_setCell_same (u := .int .i64 b) _ _ _ ?_
    rw [World.cell?_setCell_other _ _ _ _ (by simp)]; exact h1
  · rw [World.cell?_setCell_other _ _ _ _ (by simp)]
    refine World.cell?_setCell_same (u := .int .i64 c) _ _ _ ?_
    rw [World.cell?_setCell_other _ _ _ _ (by simp), World.cell?_setCell_other _ _ _ _ (by simp)]; exact h2
  · refine World.cell?_setCell_same (u := .int .i64 d) _ _ _ ?_
    rw [World.cell?_setCell_other _ _ _ _ (by simp), World.cell?_setCell_other _ _ _ _ (by simp), World.cell?_setCell_other _ _ _ _ (by simp)]; exact h3
theorem MatAt.other {W : World} {g g' : Nat} {a b c d : Int} (h : MatAt W g a b c d) (hne : g' ≠ g) (x y z u : Int) :
    MatAt ((((W.setCell ⟨g', 0, none⟩ (.int .i64 x)).setCell ⟨g', 1, none⟩ (.int .i64 y)).setCell ⟨g', 2, none⟩ (.int .i64 z)).setCell ⟨g', 3, none⟩ (.int .i64 u)) g a b c d := by
  refine h.kept (fun o => ?_) (fun o => by simp)
  rw [World.cell?_setCell_far _ _ _ _ hne, World.cell?_setCell_far _ _ _ _ hne, World.cell?_setCell_far _ _ _ _ hne, World.cell?_setCell_far _ _ _ _ hne]
theorem Reads.put {W : World} {B g : Nat} {a : Option Addr} {len cap : Nat} {p : Int} (h : Reads W B a len cap p) (hg : B < g) (x y z u : Int) :
    Reads ((((W.setCell ⟨g, 0, none⟩ (.int .i64 x)).setCell ⟨g, 1, none⟩ (.int .i64 y)).setCell ⟨g, 2, none⟩ (.int .i64 z)).setCell ⟨g, 3, none⟩ (.int .i64 u)) B a len cap p :=
  h.below (((((Below.refl (B + 1) W).setCell (p := ⟨g, 0, none⟩) hg _).setCell (p := ⟨g, 1, none⟩) hg _).setCell (p := ⟨g, 2, none⟩) hg _).setCell (p := ⟨g, 3, none⟩) hg _)
theorem below_put {w W : World} {B g : Nat} (h : Below B w W) (hg : B ≤ g) (x y z u : Int) :
    Below B w ((((W.setCell ⟨g, 0, none⟩ (.int .i64 x)).setCell ⟨g, 1, none⟩ (.int .i64 y)).setCell ⟨g, 2, none⟩ (.int .i64 z)).setCell ⟨g, 3, none⟩ (.int .i64 u)) :=
  (((h.setCell (p := ⟨g, 0, none⟩) hg _).setCell (p := ⟨g, 1, none⟩) hg _).setCell (p := ⟨g, 2, none⟩) hg _).setCell (p := ⟨g, 3, none⟩) hg _

def OneMat (w : World) (e : Ending) (w' : World) : Prop := ∃ a b c d : Int, e = .returned (.agg #[.int .i64 (a), .int .i64 (b), .int .i64 (c), .int .i64 (d)]) ∧ Below w.heap.size w w'
end Go.Proofs.YtohojjoediibhaaDoor
