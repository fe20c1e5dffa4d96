/- The value of a fraction: the program's method. -/
import Derived.Test.YtcieihbknfeddaaBt
import Derived.RangeFuncBox
namespace Go.Proofs.Ytcieihbknfeddaa
open Go.RowKit Go.Shelf

attribute [local go_sem] Oper.semAt_some

theorem boxed_under {W W' : World} {B : Nat} {t : TypeId} {v : Value} (h : Boxed W B t v) (hb : Below W.heap.size W W') : Boxed W' B t v := h.kept (grown_of_below hb none) (by simp)
/-- what has come, turned over: an end of the list -/
def cameL (pre : List Elem) : List Int := (pre.map (·.1.2)).reverse
theorem came_snoc (pre : List Elem) (x : Elem) : cameL (pre ++ [x]) = x.1.2 :: cameL pre := by simp [cameL]
theorem came_upto (l : List Int) (h : ∀ b ∈ l, rngB b = true) {k : Nat} (hk : k ≤ l.length) : cameL (upTo (elemAt l h) k) = l.drop (l.length - k) := by
  induction k with
  | zero => simp [cameL, upTo]
  | succ k ih =>
    rw [upTo_succ, came_snoc, ih (by omega), elemAt_fst (by omega), drop_get (j := l.length - (k + 1)) (by omega)]
    rw [show l.length - (k + 1) = l.length - 1 - k by omega, show l.length - 1 - k + 1 = l.length - k by omega]

theorem came_rng (pre : List Elem) : twoUp (cameL pre) := by
  intro b hb
  simp [cameL] at hb
  obtain ⟨y, h1, _⟩ := hb
  exact (rngB_in (by assumption)).1
theorem mul_hundred {b n : Int} (hb : 2 ≤ b ∧ b ≤ 100) (hn : 1 ≤ n ∧ n ≤ 1000000000) : 2 * n ≤ b * n ∧ b * n ≤ 100000000000 := by
  have h1 : 2 * n ≤ b * n := Int.mul_le_mul_of_nonneg_right hb.1 (by omega)
  have h2 : b * n ≤ 100 * n := Int.mul_le_mul_of_nonneg_right hb.2 (by omega)
  omega
theorem boxed_row {X Y : World} {row : Option Nat} {B : Nat} {t : TypeId} {v : Value} (h : Boxed X B t v) (hg : X.grownBy Y row) (hr : ∀ r, row = some r → ∃ o : Obj, X.heap[r]? = some o ∧ o.isCells = false) : Boxed Y B t v := boxed_own B t (fun _ : Unit => v) () X Y row h hg hr
end Go.Proofs.Ytcieihbknfeddaa
