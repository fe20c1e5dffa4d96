/- FnMatTurned: turned twice is not turned. -/
import Derived.Test.YtncjidkgbfilkabDoorDm
import Derived.Test.YtncjidkgbfilkabDoorTp
namespace Go.Proofs.YtncjidkgbfilkabDoor
open Go.RowKit

theorem turned_back {a b c d : Int} (h : matB a b c d = true) :
    matB (detM a b c d * d) (-(detM a b c d * b)) (-(detM a b c d * c)) (detM a b c d * a) = true ∧ detM (detM a b c d * d) (-(detM a b c d * b)) (-(detM a b c d * c)) (detM a b c d * a) = detM a b c d ∧ (∀ x, detM a b c d * (detM a b c d * x) = x) := by
  obtain ⟨⟨ha, hb, hc, hd⟩, hk⟩ := mat_in h
  have a1 := szB_true ha
  have b1 := szB_true hb
  have c1 := szB_true hc
  have d1 := szB_true hd
  obtain hk1 | hk1 : detM a b c d = 1 ∨ detM a b c d = -1 := by simpa [detOk] using hk
  · rw [hk1]
    have e : detM (1 * d) (-(1 * b)) (-(1 * c)) (1 * a) = 1 := by
      have k : a * d - b * c = 1 := hk1
      unfold detM
      rw [Int.one_mul, Int.one_mul, Int.one_mul, Int.one_mul, Int.neg_mul_neg, Int.mul_comm d a]
      exact k
    refine ⟨?_, e, fun x => by omega⟩
    have s1 : szB (1 * d) = true := szB_mk (by omega) (by omega)
    have s2 : szB (-(1 * b)) = true := szB_mk (by omega) (by omega)
    have s3 : szB (-(1 * c)) = true := szB_mk (by omega) (by omega)
    have s4 : szB (1 * a) = true := szB_mk (by omega) (by omega)
    unfold matB sz4
    rw [s1, s2, s3, s4, e]
    rfl
  · rw [hk1]
    have e : detM (-1 * d) (-(-1 * b)) (-(-1 * c)) (-1 * a) = -1 := by
      have k : a * d - b * c = -1 := hk1
      unfold detM
      rw [show (-1 : Int) * d = -d by omega, show (-1 : Int) * a = -a by omega, show -((-1 : Int) * b) = b by omega, show -((-1 : Int) * c) = c by omega, Int.neg_mul_neg, Int.mul_comm d a]
      exact k
    refine ⟨?_, e, fun x => by omega⟩
    have s1 : szB (-1 * d) = true := szB_mk (by omega) (by omega)
    have s2 : szB (-(-1 * b)) = true := szB_mk (by omega) (by omega)
    have s3 : szB (-(-1 * c)) = true := szB_mk (by omega) (by omega)
    have s4 : szB (-1 * a) = true := szB_mk (by omega) (by omega)
    unfold matB sz4
    rw [s1, s2, s3, s4, e]
    rfl
/-- what the program gives for a matrix that is turned -/
theorem matTurned_back (a b c d : Int) (w : World) (hg : EtOk w) (h : matB a b c d = true) :
    Calls Tryd.prog 32 #[.agg #[.int .i64 (detM a b c d * d), .int .i64 (-(detM a b c d * b)), .int .i64 (-(detM a b c d * c)), .int .i64 (detM a b c d * a)]] w fun e w' => e = .returned (.tuple #[.agg #[.int .i64 (a), .int .i64 (b), .int .i64 (c), .int .i64 (d)], .bool true]) ∧ Below w.heap.size w w' := by
  obtain ⟨h1, h2, h3⟩ := turned_back h
  refine Calls.mono (matTurned_any _ _ _ _ w hg) ?_
  rintro e w' ⟨rfl, hb⟩
  refine ⟨?_, hb⟩
  rw [h1, h2]
  simp only [gate_true, Int.mul_neg, Int.neg_neg, h3]
theorem matTurned_fits (a b c d : Int) (w : World) (hg : EtOk w) (h : matB a b c d = true) :
    Calls Tryd.prog 32 #[.agg #[.int .i64 (a), .int .i64 (b), .int .i64 (c), .int .i64 (d)]] w fun e w' => e = .returned (.tuple #[.agg #[.int .i64 (detM a b c d * d), .int .i64 (-(detM a b c d * b)), .int .i64 (-(detM a b c d * c)), .int .i64 (detM a b c d * a)], .bool true]) ∧ Below w.heap.size w w' := by
  refine Calls.mono (matTurned_any _ _ _ _ w hg) ?_
  rintro e w' ⟨rfl, hb⟩
  refine ⟨?_, hb⟩
  rw [h]; rfl
theorem specMatTurned_fits (a b c d : Int) (w : World) (h : matB a b c d = true) :
    Calls Tryd.prog 33 #[.agg #[.int .i64 (a), .int .i64 (b), .int .i64 (c), .int .i64 (d)]] w fun e w' => e = .returned (.tuple #[.agg #[.int .i64 (detM a b c d * d), .int .i64 (-(detM a b c d * b)), .int .i64 (-(detM a b c d * c)), .int .i64 (detM a b c d * a)], .bool true]) ∧ Below w.heap.size w w' := by
  refine Calls.mono (specMatTurned_any _ _ _ _ w) ?_
  rintro e w' ⟨rfl, hb⟩
  refine ⟨?_, hb⟩
  rw [h]; rfl
theorem matTurned_none (a b c d : Int) (w : World) (hg : EtOk w) (h : matB a b c d = false) :
    Calls Tryd.prog 32 #[.agg #[.int .i64 (a), .int .i64 (b), .int .i64 (c), .int .i64 (d)]] w fun e w' => e = .returned (.tuple #[.agg #[.int .i64 (0), .int .i64 (0), .int .i64 (0), .int .i64 (0)], .bool false]) ∧ Below w.heap.size w w' := by
  refine Calls.mono (matTurned_any _ _ _ _ w hg) ?_
  rintro e w' ⟨rfl, hb⟩
  refine ⟨?_, hb⟩
  rw [h]; rfl
theorem specMatTurned_none (a b c d : Int) (w : World) (h : matB a b c d = false) :
    Calls Tryd.prog 33 #[.agg #[.int .i64 (a), .int .i64 (b), .int .i64 (c), .int .i64 (d)]] w fun e w' => e = .returned (.tuple #[.agg #[.int .i64 (0), .int .i64 (0), .int .i64 (0), .int .i64 (0)], .bool false]) ∧ Below w.heap.size w w' := by
  refine Calls.mono (specMatTurned_any _ _ _ _ w) ?_
  rintro e w' ⟨rfl, hb⟩
  refine ⟨?_, hb⟩
  rw [h]; rfl

set_option maxHeartbeats 4000000 in
theorem fnMatTurned_any (a : Option Addr) (len cap : Nat) (w : World) (h : Bytes w a len cap) (hg : EtOk w) :
    Calls Tryd.prog 9 #[.slice a len cap] w fun e w' => e = .returned (.bool true) ∧ Below w.heap.size w w' := by
  by_cases hl : 1048576 < len
  · have hl' : (1048576 : Int) < (len : Int) := by omega
    go_enter Tryd.func9, Tryd.ntmps9
    go_wp2
    go_returns
    exact ⟨rfl, Below.refl _ _⟩
  · have hl' : (len : Int) ≤ 1048576 := by omega
    have HD := Lib.hid (drawMatTurned_any w a len cap h)
    clear h
    go_enter Tryd.func9, Tryd.ntmps9
    go_wp2_with fail
    refine Calls.mono HD.out ?_
    rintro e w0 ⟨x, y, z, u, rfl, hb0⟩
    cases k : matB x y z u
    · go_wp2_with fail
      refine Calls.mono (matTurned_none x y z u _ (hg.below (by have := hb0.size; go_grown)) k) ?_
      rintro e w1 ⟨rfl, hb1⟩
      have hA1 : Below w.heap.size w w1 := belowTo (by have := hb0.size; go_grown) hb1
      have m0 : w1.cell? ⟨w0.heap.size, 0, none⟩ = some (.int .i64 (x)) := (hb1.cell (p := ⟨w0.heap.size, 0, none⟩) (by first | assumption | (go_size; done) | (simp; omega) | (simp only [World.size_alloc]; omega))).trans (by first | assumption | (go_cell; done) | (go_simp; done) | simp [*]); have mf0 : w1.frozen? ⟨w0.heap.size, 0, none⟩ = false := (hb1.frozen (p := ⟨w0.heap.size, 0, none⟩) (by first | assumption | (go_size; done) | (simp; omega) | (simp only [World.size_alloc]; omega))).trans (by first | assumption | (go_cell; done) | (go_simp; done) | simp [*]); have m1 : w1.cell? ⟨w0.heap.size, 1, none⟩ = some (.int .i64 (y)) := (hb1.cell (p := ⟨w0.heap.size, 1, none⟩) (by first | assumption | (go_size; done) | (simp; omega) | (simp only [World.size_alloc]; omega))).trans (by first | assumption | (go_cell; done) | (go_simp; done) | simp [*]); have mf1 : w1.frozen? ⟨w0.heap.size, 1, none⟩ = false := (hb1.frozen (p := ⟨w0.heap.size, 1, none⟩) (by first | assumption | (go_size; done) | (simp; omega) | (simp only [World.size_alloc]; omega))).trans (by first | assumption | (go_cell; done) | (go_simp; done) | simp [*]); have m2 : w1.cell? ⟨w0.heap.size, 2, none⟩ = some (.int .i64 (z)) := (hb1.cell (p := ⟨w0.heap.size, 2, none⟩) (by first | assumption | (go_size; done) | (simp; omega) | (simp only [World.size_alloc]; omega))).trans (by first | assumption | (go_cell; done) | (go_simp; done) | simp [*]); have mf2 : w1.frozen? ⟨w0.heap.size, 2, none⟩ = false := (hb1.frozen (p := ⟨w0.heap.size, 2, none⟩) (by first | assumption | (go_size; done) | (simp; omega) | (simp only [World.size_alloc]; omega))).trans (by first | assumption | (go_cell; done) | (go_simp; done) | simp [*]); have m3 : w1.cell? ⟨w0.heap.size, 3, none⟩ = some (.int .i64 (u)) := (hb1.cell (p := ⟨w0.heap.size, 3, none⟩) (by first | assumption | (go_size; done) | (simp; omega) | (simp only [World.size_alloc]; omega))).trans (by first | assumption | (go_cell; done) | (go_simp; done) | simp [*]); have mf3 : w1.frozen? ⟨w0.heap.size, 3, none⟩ = false := (hb1.frozen (p := ⟨w0.heap.size, 3, none⟩) (by first | assumption | (go_size; done) | (simp; omega) | (simp only [World.size_alloc]; omega))).trans (by first | assumption | (go_cell; done) | (go_simp; done) | simp [*])
      have hl1 : w0.heap.size < w1.heap.size := bsize hb1 _ (by simp)
      have hs1 := hA1.size
      clear hb1 hb0
      go_wp2_with fail
      go_call (specMatTurned_none x y z u _ k) as e w2 ⟨rfl, hb2⟩
      have hA2 : Below w.heap.size w w2 := belowTo (by go_grown) hb2
      have o0 : w2.cell? ⟨w1.heap.size, 0, none⟩ = some (.int .i64 (0)) := (hb2.cell (p := ⟨w1.heap.size, 0, none⟩) (by first | assumption | (go_size; done) | (simp; omega) | (simp only [World.size_alloc]; omega))).trans (by first | assumption | (go_cell; done) | (go_simp; done) | simp [*]); have of0 : w2.frozen? ⟨w1.heap.size, 0, none⟩ = false := (hb2.frozen (p := ⟨w1.heap.size, 0, none⟩) (by first | assumption | (go_size; done) | (simp; omega) | (simp only [World.size_alloc]; omega))).trans (by first | assumption | (go_cell; done) | (go_simp; done) | simp [*]); have o1 : w2.cell? ⟨w1.heap.size, 1, none⟩ = some (.int .i64 (0)) := (hb2.cell (p := ⟨w1.heap.size, 1, none⟩) (by first | assumption | (go_size; done) | (simp; omega) | (simp only [World.size_alloc]; omega))).trans (by first | assumption | (go_cell; done) | (go_simp; done) | simp [*]); have of1 : w2.frozen? ⟨w1.heap.size, 1, none⟩ = false := (hb2.frozen (p := ⟨w1.heap.size, 1, none⟩) (by first | assumption | (go_size; done) | (simp; omega) | (simp only [World.size_alloc]; omega))).trans (by first | assumption | (go_cell; done) | (go_simp; done) | simp [*]); have o2 : w2.cell? ⟨w1.heap.size, 2, none⟩ = some (.int .i64 (0)) := (hb2.cell (p := ⟨w1.heap.size, 2, none⟩) (by first | assumption | (go_size; done) | (simp; omega) | (simp only [World.size_alloc]; omega))).trans (by first | assumption | (go_cell; done) | (go_simp; done) | simp [*]); have of2 : w2.frozen? ⟨w1.heap.size, 2, none⟩ = false := (hb2.frozen (p := ⟨w1.heap.size, 2, none⟩) (by first | assumption | (go_size; done) | (simp; omega) | (simp only [World.size_alloc]; omega))).trans (by first | assumption | (go_cell; done) | (go_simp; done) | simp [*]); have o3 : w2.cell? ⟨w1.heap.size, 3, none⟩ = some (.int .i64 (0)) := (hb2.cell (p := ⟨w1.heap.size, 3, none⟩) (by first | assumption | (go_size; done) | (simp; omega) | (simp only [World.size_alloc]; omega))).trans (by first | assumption | (go_cell; done) | (go_simp; done) | simp [*]); have of3 : w2.frozen? ⟨w1.heap.size, 3, none⟩ = false := (hb2.frozen (p := ⟨w1.heap.size, 3, none⟩) (by first | assumption | (go_size; done) | (simp; omega) | (simp only [World.size_alloc]; omega))).trans (by first | assumption | (go_cell; done) | (go_simp; done) | simp [*])
      have hs2 := hA2.size
      have hl3 : w1.heap.size < w2.heap.size := Nat.lt_of_lt_of_le (by simp only [World.size_alloc]; omega) hb2.size
      clear hb2 hA1 m0 m1 m2 m3 mf0 mf1 mf2 mf3
      go_wp2
      go_returns
      exact ⟨by simp, by go_grown⟩
    · have HF := Lib.hid (fun w' hg' => matTurned_fits x y z u w' hg' k)
      have HS := Lib.hid (fun w' => specMatTurned_fits x y z u w' k)
      have HB := Lib.hid (fun w' hg' => matTurned_back x y z u w' hg' k)
      generalize detM x y z u * u = p at HF HS HB
      generalize -(detM x y z u * y) = q at HF HS HB
      generalize -(detM x y z u * z) = r at HF HS HB
      generalize detM x y z u * x = s at HF HS HB
      clear k
      go_wp2_with fail
      refine Calls.mono (HF.out _ (hg.below (by have := hb0.size; go_grown))) ?_
      rintro e w1 ⟨rfl, hb1⟩
      have hA1 : Below w.heap.size w w1 := belowTo (by have := hb0.size; go_grown) hb1
      have m0 : w1.cell? ⟨w0.heap.size, 0, none⟩ = some (.int .i64 (x)) := (hb1.cell (p := ⟨w0.heap.size, 0, none⟩) (by first | assumption | (go_size; done) | (simp; omega) | (simp only [World.size_alloc]; omega))).trans (by first | assumption | (go_cell; done) | (go_simp; done) | simp [*]); have mf0 : w1.frozen? ⟨w0.heap.size, 0, none⟩ = false := (hb1.frozen (p := ⟨w0.heap.size, 0, none⟩) (by first | assumption | (go_size; done) | (simp; omega) | (simp only [World.size_alloc]; omega))).trans (by first | assumption | (go_cell; done) | (go_simp; done) | simp [*]); have m1 : w1.cell? ⟨w0.heap.size, 1, none⟩ = some (.int .i64 (y)) := (hb1.cell (p := ⟨w0.heap.size, 1, none⟩) (by first | assumption | (go_size; done) | (simp; omega) | (simp only [World.size_alloc]; omega))).trans (by first | assumption | (go_cell; done) | (go_simp; done) | simp [*]); have mf1 : w1.frozen? ⟨w0.heap.size, 1, none⟩ = false := (hb1.frozen (p := ⟨w0.heap.size, 1, none⟩) (by first | assumption | (go_size; done) | (simp; omega) | (simp only [World.size_alloc]; omega))).trans (by first | assumption | (go_cell; done) | (go_simp; done) | simp [*]); have m2 : w1.cell? ⟨w0.heap.size, 2, none⟩ = some (.int .i64 (z)) := (hb1.cell (p := ⟨w0.heap.size, 2, none⟩) (by first | assumption | (go_size; done) | (simp; omega) | (simp only [World.size_alloc]; omega))).trans (by first | assumption | (go_cell; done) | (go_simp; done) | simp [*]); have mf2 : w1.frozen? ⟨w0.heap.size, 2, none⟩ = false := (hb1.frozen (p := ⟨w0.heap.size, 2, none⟩) (by first | assumption | (go_size; done) | (simp; omega) | (simp only [World.size_alloc]; omega))).trans (by first | assumption | (go_cell; done) | (go_simp; done) | simp [*]); have m3 : w1.cell? ⟨w0.heap.size, 3, none⟩ = some (.int .i64 (u)) := (hb1.cell (p := ⟨w0.heap.size, 3, none⟩) (by first | assumption | (go_size; done) | (simp; omega) | (simp only [World.size_alloc]; omega))).trans (by first | assumption | (go_cell; done) | (go_simp; done) | simp [*]); have mf3 : w1.frozen? ⟨w0.heap.size, 3, none⟩ = false := (hb1.frozen (p := ⟨w0.heap.size, 3, none⟩) (by first | assumption | (go_size; done) | (simp; omega) | (simp only [World.size_alloc]; omega))).trans (by first | assumption | (go_cell; done) | (go_simp; done) | simp [*])
      have hl1 : w0.heap.size < w1.heap.size := bsize hb1 _ (by simp)
      have hs1 := hA1.size
      clear hb1 hb0
      go_wp2_with fail
      go_call (HS.out _) as e w2 ⟨rfl, hb2⟩
      have hA2 : Below w.heap.size w w2 := belowTo (by go_grown) hb2
      have n0 : w2.cell? ⟨w0.heap.size, 0, none⟩ = some (.int .i64 (x)) := (hb2.cell (p := ⟨w0.heap.size, 0, none⟩) (by first | assumption | (go_size; done) | (simp; omega) | (simp only [World.size_alloc]; omega))).trans (by first | assumption | (go_cell; done) | (go_simp; done) | simp [*]); have nf0 : w2.frozen? ⟨w0.heap.size, 0, none⟩ = false := (hb2.frozen (p := ⟨w0.heap.size, 0, none⟩) (by first | assumption | (go_size; done) | (simp; omega) | (simp only [World.size_alloc]; omega))).trans (by first | assumption | (go_cell; done) | (go_simp; done) | simp [*]); have n1 : w2.cell? ⟨w0.heap.size, 1, none⟩ = some (.int .i64 (y)) := (hb2.cell (p := ⟨w0.heap.size, 1, none⟩) (by first | assumption | (go_size; done) | (simp; omega) | (simp only [World.size_alloc]; omega))).trans (by first | assumption | (go_cell; done) | (go_simp; done) | simp [*]); have nf1 : w2.frozen? ⟨w0.heap.size, 1, none⟩ = false := (hb2.frozen (p := ⟨w0.heap.size, 1, none⟩) (by first | assumption | (go_size; done) | (simp; omega) | (simp only [World.size_alloc]; omega))).trans (by first | assumption | (go_cell; done) | (go_simp; done) | simp [*]); have n2 : w2.cell? ⟨w0.heap.size, 2, none⟩ = some (.int .i64 (z)) := (hb2.cell (p := ⟨w0.heap.size, 2, none⟩) (by first | assumption | (go_size; done) | (simp; omega) | (simp only [World.size_alloc]; omega))).trans (by first | assumption | (go_cell; done) | (go_simp; done) | simp [*]); have nf2 : w2.frozen? ⟨w0.heap.size, 2, none⟩ = false := (hb2.frozen (p := ⟨w0.heap.size, 2, none⟩) (by first | assumption | (go_size; done) | (simp; omega) | (simp only [World.size_alloc]; omega))).trans (by first | assumption | (go_cell; done) | (go_simp; done) | simp [*]); have n3 : w2.cell? ⟨w0.heap.size, 3, none⟩ = some (.int .i64 (u)) := (hb2.cell (p := ⟨w0.heap.size, 3, none⟩) (by first | assumption | (go_size; done) | (simp; omega) | (simp only [World.size_alloc]; omega))).trans (by first | assumption | (go_cell; done) | (go_simp; done) | simp [*]); have nf3 : w2.frozen? ⟨w0.heap.size, 3, none⟩ = false := (hb2.frozen (p := ⟨w0.heap.size, 3, none⟩) (by first | assumption | (go_size; done) | (simp; omega) | (simp only [World.size_alloc]; omega))).trans (by first | assumption | (go_cell; done) | (go_simp; done) | simp [*])
      have o0 : w2.cell? ⟨w1.heap.size, 0, none⟩ = some (.int .i64 (p)) := (hb2.cell (p := ⟨w1.heap.size, 0, none⟩) (by first | assumption | (go_size; done) | (simp; omega) | (simp only [World.size_alloc]; omega))).trans (by first | assumption | (go_cell; done) | (go_simp; done) | simp [*]); have of0 : w2.frozen? ⟨w1.heap.size, 0, none⟩ = false := (hb2.frozen (p := ⟨w1.heap.size, 0, none⟩) (by first | assumption | (go_size; done) | (simp; omega) | (simp only [World.size_alloc]; omega))).trans (by first | assumption | (go_cell; done) | (go_simp; done) | simp [*]); have o1 : w2.cell? ⟨w1.heap.size, 1, none⟩ = some (.int .i64 (q)) := (hb2.cell (p := ⟨w1.heap.size, 1, none⟩) (by first | assumption | (go_size; done) | (simp; omega) | (simp only [World.size_alloc]; omega))).trans (by first | assumption | (go_cell; done) | (go_simp; done) | simp [*]); have of1 : w2.frozen? ⟨w1.heap.size, 1, none⟩ = false := (hb2.frozen (p := ⟨w1.heap.size, 1, none⟩) (by first | assumption | (go_size; done) | (simp; omega) | (simp only [World.size_alloc]; omega))).trans (by first | assumption | (go_cell; done) | (go_simp; done) | simp [*]); have o2 : w2.cell? ⟨w1.heap.size, 2, none⟩ = some (.int .i64 (r)) := (hb2.cell (p := ⟨w1.heap.size, 2, none⟩) (by first | assumption | (go_size; done) | (simp; omega) | (simp only [World.size_alloc]; omega))).trans (by first | assumption | (go_cell; done) | (go_simp; done) | simp [*]); have of2 : w2.frozen? ⟨w1.heap.size, 2, none⟩ = false := (hb2.frozen (p := ⟨w1.heap.size, 2, none⟩) (by first | assumption | (go_size; done) | (simp; omega) | (simp only [World.size_alloc]; omega))).trans (by first | assumption | (go_cell; done) | (go_simp; done) | simp [*]); have o3 : w2.cell? ⟨w1.heap.size, 3, none⟩ = some (.int .i64 (s)) := (hb2.cell (p := ⟨w1.heap.size, 3, none⟩) (by first | assumption | (go_size; done) | (simp; omega) | (simp only [World.size_alloc]; omega))).trans (by first | assumption | (go_cell; done) | (go_simp; done) | simp [*]); have of3 : w2.frozen? ⟨w1.heap.size, 3, none⟩ = false := (hb2.frozen (p := ⟨w1.heap.size, 3, none⟩) (by first | assumption | (go_size; done) | (simp; omega) | (simp only [World.size_alloc]; omega))).trans (by first | assumption | (go_cell; done) | (go_simp; done) | simp [*])
      have hs2 := hA2.size
      have hl2 : w0.heap.size < w2.heap.size := Nat.lt_of_lt_of_le (by simp only [World.size_alloc]; omega) hb2.size
      have hl3 : w1.heap.size < w2.heap.size := Nat.lt_of_lt_of_le (by simp only [World.size_alloc]; omega) hb2.size
      clear hb2 hA1 m0 m1 m2 m3 mf0 mf1 mf2 mf3
      go_wp2_with fail
      refine Calls.mono (HB.out _ (hg.below (by go_grown))) ?_
      rintro e w3 ⟨rfl, hb3⟩
      have hA3 : Below w.heap.size w w3 := belowTo (by go_grown) hb3
      have i0 : w3.cell? ⟨w0.heap.size, 0, none⟩ = some (.int .i64 (x)) := (hb3.cell (p := ⟨w0.heap.size, 0, none⟩) (by first | assumption | (go_size; done) | (simp; omega) | (simp only [World.size_alloc]; omega))).trans (by first | assumption | (go_cell; done) | (go_simp; done) | simp [*]); have if0 : w3.frozen? ⟨w0.heap.size, 0, none⟩ = false := (hb3.frozen (p := ⟨w0.heap.size, 0, none⟩) (by first | assumption | (go_size; done) | (simp; omega) | (simp only [World.size_alloc]; omega))).trans (by first | assumption | (go_cell; done) | (go_simp; done) | simp [*]); have i1 : w3.cell? ⟨w0.heap.size, 1, none⟩ = some (.int .i64 (y)) := (hb3.cell (p := ⟨w0.heap.size, 1, none⟩) (by first | assumption | (go_size; done) | (simp; omega) | (simp only [World.size_alloc]; omega))).trans (by first | assumption | (go_cell; done) | (go_simp; done) | simp [*]); have if1 : w3.frozen? ⟨w0.heap.size, 1, none⟩ = false := (hb3.frozen (p := ⟨w0.heap.size, 1, none⟩) (by first | assumption | (go_size; done) | (simp; omega) | (simp only [World.size_alloc]; omega))).trans (by first | assumption | (go_cell; done) | (go_simp; done) | simp [*]); have i2 : w3.cell? ⟨w0.heap.size, 2, none⟩ = some (.int .i64 (z)) := (hb3.cell (p := ⟨w0.heap.size, 2, none⟩) (by first | assumption | (go_size; done) | (simp; omega) | (simp only [World.size_alloc]; omega))).trans (by first | assumption | (go_cell; done) | (go_simp; done) | simp [*]); have if2 : w3.frozen? ⟨w0.heap.size, 2, none⟩ = false := (hb3.frozen (p := ⟨w0.heap.size, 2, none⟩) (by first | assumption | (go_size; done) | (simp; omega) | (simp only [World.size_alloc]; omega))).trans (by first | assumption | (go_cell; done) | (go_simp; done) | simp [*]); have i3 : w3.cell? ⟨w0.heap.size, 3, none⟩ = some (.int .i64 (u)) := (hb3.cell (p := ⟨w0.heap.size, 3, none⟩) (by first | assumption | (go_size; done) | (simp; omega) | (simp only [World.size_alloc]; omega))).trans (by first | assumption | (go_cell; done) | (go_simp; done) | simp [*]); have if3 : w3.frozen? ⟨w0.heap.size, 3, none⟩ = false := (hb3.frozen (p := ⟨w0.heap.size, 3, none⟩) (by first | assumption | (go_size; done) | (simp; omega) | (simp only [World.size_alloc]; omega))).trans (by first | assumption | (go_cell; done) | (go_simp; done) | simp [*])
      have hl4 : w0.heap.size < w3.heap.size := Nat.lt_of_lt_of_le (by simp only [World.size_alloc]; omega) hb3.size
      have hs3 := hA3.size
      clear hb3 hA2 n0 n1 n2 n3 nf0 nf1 nf2 nf3 o0 o1 o2 o3 of0 of1 of2 of3
      go_wp2
      go_returns
      exact ⟨by simp, by go_grown⟩
end Go.Proofs.YtncjidkgbfilkabDoor
