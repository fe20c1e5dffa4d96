/- The value of a fraction: the program's method. -/
import Derived.Test.YtcieihbknfeddaaDoorBt
import Derived.RangeFuncBox
namespace Go.Proofs.YtcieihbknfeddaaDoor
open Go.RowKit Go.Shelf

attribute [local go_sem] Oper.semAt_some

theorem check_good (v : Value) (l : List Int) (w : World) (h : ReadsInts w v l) (hl : lstB l = true) :
    Calls Tryd.prog 206 #[v] w fun e w' => e = .returned .nilIface ∧ Below w.heap.size w w' := by
  refine (fracCheck_any v l w h).mono ?_
  rintro e w' ⟨h1 | h1, hb⟩
  · exact ⟨h1.2, hb⟩
  · rw [hl] at h1; cases h1.1
theorem check_bad (v : Value) (l : List Int) (w : World) (h : ReadsInts w v l) (hl : lstB l = false) :
    Calls Tryd.prog 206 #[v] w fun e w' => IsNone e ∧ Below w.heap.size w w' := by
  refine (fracCheck_any v l w h).mono ?_
  rintro e w' ⟨h1 | h1, hb⟩
  · rw [hl] at h1; cases h1.1
  · exact ⟨h1.2, hb⟩
theorem boxed_under {W W' : World} {B : Nat} {t : TypeId} {v : Value} (h : Boxed W B t v) (hb : Below W.heap.size W W') : Boxed W' B t v := h.kept (grown_of_below hb none) (by simp)
/-- what has come, turned over: an end of the list -/
def cameL (pre : List Elem) : List Int := (pre.map (·.1.2)).reverse
theorem came_snoc (pre : List Elem) (x : Elem) : cameL (pre ++ [x]) = x.1.2 :: cameL pre := by simp [cameL]
theorem came_upto (l : List Int) (h : ∀ b ∈ l, rngB b = true) {k : Nat} (hk : k ≤ l.length) : cameL (upTo (elemAt l h) k) = l.drop (l.length - k) := by
  induction k with
  | zero => simp [cameL, upTo]
  | succ k ih =>
    rw [upTo_succ, came_snoc, ih (by omega), elemAt_fst (by omega), drop_get (j := l.length - (k + 1)) (by omega)]
    rw [show l.length - (k + 1) = l.length - 1 - k by omega, show l.length - 1 - k + 1 = l.length - k by omega]

theorem came_rng (pre : List Elem) : twoUp (cameL pre) := by
  intro b hb
  simp [cameL] at hb
  obtain ⟨y, h1, _⟩ := hb
  exact (rngB_in (by assumption)).1
theorem mul_hundred {b n : Int} (hb : 2 ≤ b ∧ b ≤ 100) (hn : 1 ≤ n ∧ n ≤ 1000000000) : 2 * n ≤ b * n ∧ b * n ≤ 100000000000 := by
  have h1 : 2 * n ≤ b * n := Int.mul_le_mul_of_nonneg_right hb.1 (by omega)
  have h2 : b * n ≤ 100 * n := Int.mul_le_mul_of_nonneg_right hb.2 (by omega)
  omega
def ValuePost (w : World) (l : List Int) (e : Ending) (w' : World) : Prop :=
  ((valB l = true ∧ e = .returned (.tuple #[.int .i64 (contN l), .int .i64 (contQ l), .nilIface])) ∨ (valB l = false ∧ ∃ s : ByteArray, e = .returned (.tuple #[.int .i64 0, .int .i64 0, .iface 124 (.agg #[.string s])]))) ∧ Below w.heap.size w w'
theorem boxed_row {X Y : World} {row : Option Nat} {B : Nat} {t : TypeId} {v : Value} (h : Boxed X B t v) (hg : X.grownBy Y row) (hr : ∀ r, row = some r → ∃ o : Obj, X.heap[r]? = some o ∧ o.isCells = false) : Boxed Y B t v := boxed_own B t (fun _ : Unit => v) () X Y row h hg hr
/-- between two rounds: what the variables hold -/
def ValI (w w1 : World) (pre : List Elem) (W : World) : Prop :=
  (Boxed W w1.heap.size 3 (.int .i64 (contN (cameL pre))) ∧ Boxed W (w1.heap.size + 1) 3 (.int .i64 (contQ (cameL pre))) ∧ Boxed W w.heap.size 3 (.int .i64 0) ∧ Boxed W (w.heap.size + 1) 3 (.int .i64 0) ∧ Boxed W (w.heap.size + 1 + 1) 78 .nilIface ∧ contN (cameL pre) ≤ 1000000000) ∧ Below w.heap.size w W
/-- a round has left: the number was too great -/
def ValX (w : World) (c : Code) (pre : List Elem) (W : World) : Prop :=
  (c = .ret ∧ 1000000000 < contN (cameL pre) ∧ ∃ s : ByteArray, Boxed W w.heap.size 3 (.int .i64 0) ∧ Boxed W (w.heap.size + 1) 3 (.int .i64 0) ∧ Boxed W (w.heap.size + 1 + 1) 78 (.iface 124 (.agg #[.string s]))) ∧ Below w.heap.size w W
theorem valI_own (w w1 : World) (B : Nat) (h : w.heap.size ≤ B) : OwnFrom B (ValI w w1) := by
  rintro s X Y row ⟨⟨h1, h2, h3, h4, h5, h6⟩, hB⟩ hg hr
  have hr' := fun r e => (hr r e).2
  exact ⟨⟨boxed_row h1 hg hr', boxed_row h2 hg hr', boxed_row h3 hg hr', boxed_row h4 hg hr', boxed_row h5 hg hr', h6⟩, ownFrom_below (β := Unit) (Nat.le_refl _) h () X Y row hB hg hr⟩
theorem valX_own (w : World) (c : Code) (B : Nat) (h : w.heap.size ≤ B) : OwnFrom B (ValX w c) := by
  rintro s X Y row ⟨⟨h1, h2, z, h3, h4, h5⟩, hB⟩ hg hr
  have hr' := fun r e => (hr r e).2
  exact ⟨⟨h1, h2, z, boxed_row h3 hg hr', boxed_row h4 hg hr', boxed_row h5 hg hr'⟩, ownFrom_below (β := Unit) (Nat.le_refl _) h () X Y row hB hg hr⟩

end Go.Proofs.YtcieihbknfeddaaDoor
