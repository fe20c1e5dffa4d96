import Derived.Test.YtcieihbknfeddaaDoorL4
import Derived.Test.YtcieihbknfeddaaDoorBs
/- Variables of several cells that a law keeps in memory. -/
namespace Go.Proofs.YtcieihbknfeddaaDoor
open Go.RowKit

def BoxAt (w : World) (M : Nat) (vs : List Value) : Prop := M < w.heap.size ∧ ∀ i v, vs[i]? = some v → w.cell? ⟨M, i, none⟩ = some v
theorem BoxAt.below {w w' : World} {M : Nat} {vs : List Value} (h : BoxAt w M vs) (hb : Below w.heap.size w w') : BoxAt w' M vs :=
  ⟨Nat.lt_of_lt_of_le h.1 hb.size, fun i v hv => (hb.cell (p := ⟨M, i, none⟩) h.1).trans (h.2 i v hv)⟩
theorem BoxAt.two {w : World} {M : Nat} {x y : Value} (h : BoxAt w M [x, y]) : w.cell? ⟨M, 0, none⟩ = some x ∧ w.cell? ⟨M, 1, none⟩ = some y := ⟨h.2 0 x rfl, h.2 1 y rfl⟩
theorem BoxAt.four {w : World} {M : Nat} {x y z u : Value} (h : BoxAt w M [x, y, z, u]) : w.cell? ⟨M, 0, none⟩ = some x ∧ w.cell? ⟨M, 1, none⟩ = some y ∧ w.cell? ⟨M, 2, none⟩ = some z ∧ w.cell? ⟨M, 3, none⟩ = some u := ⟨h.2 0 x rfl, h.2 1 y rfl, h.2 2 z rfl, h.2 3 u rfl⟩
theorem BoxAt.made2 (w : World) (x y : Value) (t : TypeId) : BoxAt (w.alloc (.cells #[x, y] t)) w.heap.size [x, y] := by
  refine ⟨by simp, fun i v hv => ?_⟩
  match i, hv with
  | 0, hv => simp at hv; subst hv; simp
  | 1, hv => simp at hv; subst hv; simp
theorem BoxAt.made4 (w : World) (x y z u : Value) (t : TypeId) : BoxAt (w.alloc (.cells #[x, y, z, u] t)) w.heap.size [x, y, z, u] := by
  refine ⟨by simp, fun i v hv => ?_⟩
  match i, hv with
  | 0, hv => simp at hv; subst hv; simp
  | 1, hv => simp at hv; subst hv; simp
  | 2, hv => simp at hv; subst hv; simp
  | 3, hv => simp at hv; subst hv; simp
/-- cells of a block from an offset on -/
def CellsAt (w : World) (M o : Nat) (vs : List Value) : Prop := M < w.heap.size ∧ ∀ i v, vs[i]? = some v → w.cell? ⟨M, o + i, none⟩ = some v
theorem CellsAt.below {w w' : World} {M o : Nat} {vs : List Value} (h : CellsAt w M o vs) (hb : Below w.heap.size w w') : CellsAt w' M o vs :=
  ⟨Nat.lt_of_lt_of_le h.1 hb.size, fun i v hv => (hb.cell (p := ⟨M, o + i, none⟩) h.1).trans (h.2 i v hv)⟩
end Go.Proofs.YtcieihbknfeddaaDoor

/- FnMatTurned: turned twice is not turned. -/
namespace Go.Proofs.YtcieihbknfeddaaDoor
open Go.RowKit

theorem turned_back {a b c d : Int} (h : matB a b c d = true) :
    matB (detM a b c d * d) (-(detM a b c d * b)) (-(detM a b c d * c)) (detM a b c d * a) = true ∧ detM (detM a b c d * d) (-(detM a b c d * b)) (-(detM a b c d * c)) (detM a b c d * a) = detM a b c d ∧ (∀ x, detM a b c d * (detM a b c d * x) = x) := by
  obtain ⟨⟨ha, hb, hc, hd⟩, hk⟩ := mat_in h
  have a1 := szB_true ha
  have b1 := szB_true hb
  have c1 := szB_true hc
  have d1 := szB_true hd
  obtain hk1 | hk1 : detM a b c d = 1 ∨ detM a b c d = -1 := by simpa [detOk] using hk
  · rw [hk1]
    have e : detM (1 * d) (-(1 * b)) (-(1 * c)) (1 * a) = 1 := by
      have k : a * d - b * c = 1 := hk1
      unfold detM
      rw [Int.one_mul, Int.one_mul, Int.one_mul, Int.one_mul, Int.neg_mul_neg, Int.mul_comm d a]
      exact k
    refine ⟨?_, e, fun x => by omega⟩
    have s1 : szB (1 * d) = true := szB_mk (by omega) (by omega)
    have s2 : szB (-(1 * b)) = true := szB_mk (by omega) (by omega)
    have s3 : szB (-(1 * c)) = true := szB_mk (by omega) (by omega)
    have s4 : szB (1 * a) = true := szB_mk (by omega) (by omega)
    unfold matB sz4
    rw [s1, s2, s3, s4, e]
    rfl
  · rw [hk1]
    have e : detM (-1 * d) (-(-1 * b)) (-(-1 * c)) (-1 * a) = -1 := by
      have k : a * d - b * c = -1 := hk1
      unfold detM
      rw [show (-1 : Int) * d = -d by omega, show (-1 : Int) * a = -a by omega, show -((-1 : Int) * b) = b by omega, show -((-1 : Int) * c) = c by omega, Int.neg_mul_neg, Int.mul_comm d a]
      exact k
    refine ⟨?_, e, fun x => by omega⟩
    have s1 : szB (-1 * d) = true := szB_mk (by omega) (by omega)
    have s2 : szB (-(-1 * b)) = true := szB_mk (by omega) (by omega)
    have s3 : szB (-(-1 * c)) = true := szB_mk (by omega) (by omega)
    have s4 : szB (-1 * a) = true := szB_mk (by omega) (by omega)
    unfold matB sz4
    rw [s1, s2, s3, s4, e]
    rfl
/-- what the program gives for a matrix that is turned -/
theorem matTurned_back (a b c d : Int) (w : World) (hg : EtOk w) (h : matB a b c d = true) :
    Calls Tryd.prog 22 #[.agg #[.int .i64 (detM a b c d * d), .int .i64 (-(detM a b c d * b)), .int .i64 (-(detM a b c d * c)), .int .i64 (detM a b c d * a)]] w fun e w' => e = .returned (.tuple #[.agg #[.int .i64 (a), .int .i64 (b), .int .i64 (c), .int .i64 (d)], .bool true]) ∧ Below w.heap.size w w' := by
  obtain ⟨h1, h2, h3⟩ := turned_back h
  refine Calls.mono (matTurned_any _ _ _ _ w hg) ?_
  rintro e w' ⟨rfl, hb⟩
  refine ⟨?_, hb⟩
  rw [h1, h2]
  simp only [gate_true, Int.mul_neg, Int.neg_neg, h3]
theorem matTurned_fits (a b c d : Int) (w : World) (hg : EtOk w) (h : matB a b c d = true) :
    Calls Tryd.prog 22 #[.agg #[.int .i64 (a), .int .i64 (b), .int .i64 (c), .int .i64 (d)]] w fun e w' => e = .returned (.tuple #[.agg #[.int .i64 (detM a b c d * d), .int .i64 (-(detM a b c d * b)), .int .i64 (-(detM a b c d * c)), .int .i64 (detM a b c d * a)], .bool true]) ∧ Below w.heap.size w w' := by
  refine Calls.mono (matTurned_any _ _ _ _ w hg) ?_
  rintro e w' ⟨rfl, hb⟩
  refine ⟨?_, hb⟩
  rw [h]; rfl
theorem matTurned_none (a b c d : Int) (w : World) (hg : EtOk w) (h : matB a b c d = false) :
    Calls Tryd.prog 22 #[.agg #[.int .i64 (a), .int .i64 (b), .int .i64 (c), .int .i64 (d)]] w fun e w' => e = .returned (.tuple #[.agg #[.int .i64 (0), .int .i64 (0), .int .i64 (0), .int .i64 (0)], .bool false]) ∧ Below w.heap.size w w' := by
  refine Calls.mono (matTurned_any _ _ _ _ w hg) ?_
  rintro e w' ⟨rfl, hb⟩
  refine ⟨?_, hb⟩
  rw [h]; rfl
end Go.Proofs.YtcieihbknfeddaaDoor
