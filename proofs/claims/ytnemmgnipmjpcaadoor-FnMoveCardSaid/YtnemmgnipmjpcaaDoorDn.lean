/- FnMatTurned: turned twice is not turned. -/
import Derived.Test.YtnemmgnipmjpcaaDoorDm
import Derived.Test.YtnemmgnipmjpcaaDoorTp
namespace Go.Proofs.YtnemmgnipmjpcaaDoor
open Go.RowKit

theorem turned_back {a b c d : Int} (h : matB a b c d = true) :
    matB (detM a b c d * d) (-(detM a b c d * b)) (-(detM a b c d * c)) (detM a b c d * a) = true ∧ detM (detM a b c d * d) (-(detM a b c d * b)) (-(detM a b c d * c)) (detM a b c d * a) = detM a b c d ∧ (∀ x, detM a b c d * (detM a b c d * x) = x) := by
  obtain ⟨⟨ha, hb, hc, hd⟩, hk⟩ := mat_in h
  have a1 := szB_true ha
  have b1 := szB_true hb
  have c1 := szB_true hc
  have d1 := szB_true hd
  obtain hk1 | hk1 : detM a b c d = 1 ∨ detM a b c d = -1 := by simpa [detOk] using hk
  · rw [hk1]
    have e : detM (1 * d) (-(1 * b)) (-(1 * c)) (1 * a) = 1 := by
      have k : a * d - b * c = 1 := hk1
      unfold detM
      rw [Int.one_mul, Int.one_mul, Int.one_mul, Int.one_mul, Int.neg_mul_neg, Int.mul_comm d a]
      exact k
    refine ⟨?_, e, fun x => by omega⟩
    have s1 : szB (1 * d) = true := szB_mk (by omega) (by omega)
    have s2 : szB (-(1 * b)) = true := szB_mk (by omega) (by omega)
    have s3 : szB (-(1 * c)) = true := szB_mk (by omega) (by omega)
    have s4 : szB (1 * a) = true := szB_mk (by omega) (by omega)
    unfold matB sz4
    rw [s1, s2, s3, s4, e]
    rfl
  · rw [hk1]
    have e : detM (-1 * d) (-(-1 * b)) (-(-1 * c)) (-1 * a) = -1 := by
      have k : a * d - b * c = -1 := hk1
      unfold detM
      rw [show (-1 : Int) * d = -d by omega, show (-1 : Int) * a = -a by omega, show -((-1 : Int) * b) = b by omega, show -((-1 : Int) * c) = c by omega, Int.neg_mul_neg, Int.mul_comm d a]
      exact k
    refine ⟨?_, e, fun x => by omega⟩
    have s1 : szB (-1 * d) = true := szB_mk (by omega) (by omega)
    have s2 : szB (-(-1 * b)) = true := szB_mk (by omega) (by omega)
    have s3 : szB (-(-1 * c)) = true := szB_mk (by omega) (by omega)
    have s4 : szB (-1 * a) = true := szB_mk (by omega) (by omega)
    unfold matB sz4
    rw [s1, s2, s3, s4, e]
    rfl
/-- what the program gives for a matrix that is turned -/
theorem matTurned_back (a b c d : Int) (w : World) (hg : EtOk w) (h : matB a b c d = true) :
    Calls Tryd.prog 37 #[.agg #[.int .i64 (detM a b c d * d), .int .i64 (-(detM a b c d * b)), .int .i64 (-(detM a b c d * c)), .int .i64 (detM a b c d * a)]] w fun e w' => e = .returned (.tuple #[.agg #[.int .i64 (a), .int .i64 (b), .int .i64 (c), .int .i64 (d)], .bool true]) ∧ Below w.heap.size w w' := by
  obtain ⟨h1, h2, h3⟩ := turned_back h
  refine Calls.mono (matTurned_any _ _ _ _ w hg) ?_
  rintro e w' ⟨rfl, hb⟩
  refine ⟨?_, hb⟩
  rw [h1, h2]
  simp only [gate_true, Int.mul_neg, Int.neg_neg, h3]
theorem matTurned_fits (a b c d : Int) (w : World) (hg : EtOk w) (h : matB a b c d = true) :
    Calls Tryd.prog 37 #[.agg #[.int .i64 (a), .int .i64 (b), .int .i64 (c), .int .i64 (d)]] w fun e w' => e = .returned (.tuple #[.agg #[.int .i64 (detM a b c d * d), .int .i64 (-(detM a b c d * b)), .int .i64 (-(detM a b c d * c)), .int .i64 (detM a b c d * a)], .bool true]) ∧ Below w.heap.size w w' := by
  refine Calls.mono (matTurned_any _ _ _ _ w hg) ?_
  rintro e w' ⟨rfl, hb⟩
  refine ⟨?_, hb⟩
  rw [h]; rfl
theorem matTurned_none (a b c d : Int) (w : World) (hg : EtOk w) (h : matB a b c d = false) :
    Calls Tryd.prog 37 #[.agg #[.int .i64 (a), .int .i64 (b), .int .i64 (c), .int .i64 (d)]] w fun e w' => e = .returned (.tuple #[.agg #[.int .i64 (0), .int .i64 (0), .int .i64 (0), .int .i64 (0)], .bool false]) ∧ Below w.heap.size w w' := by
  refine Calls.mono (matTurned_any _ _ _ _ w hg) ?_
  rintro e w' ⟨rfl, hb⟩
  refine ⟨?_, hb⟩
  rw [h]; rfl
end Go.Proofs.YtnemmgnipmjpcaaDoor
