/- FnProduct. -/
import Derived.Test.YtnemmgnipmjpcaaDoorPv
namespace Go.Proofs.YtnemmgnipmjpcaaDoor
open Go.RowKit

theorem mul_bd2 {a b : Int} (ha : -2000000 ≤ a ∧ a ≤ 2000000) (hb : -2000000 ≤ b ∧ b ≤ 2000000) : -4000000000000 ≤ a * b ∧ a * b ≤ 4000000000000 := by
  have h1 : (a * b).natAbs ≤ 2000000 * 2000000 := by
    rw [Int.natAbs_mul]
    exact Nat.mul_le_mul (by omega) (by omega)
  omega
theorem sq_bd {a : Int} (ha : -2000000 ≤ a ∧ a ≤ 2000000) : -4000000000000 ≤ a * a ∧ a * a ≤ 4000000000000 := mul_bd2 ha ha
set_option maxHeartbeats 8000000 in
theorem fnProduct_any (a : Option Addr) (len cap : Nat) (w : World) (h : Bytes w a len cap) (hg : EtOk w) :
    Calls Tryd.prog 7 #[.slice a len cap] w fun e w' => e = .returned (.bool true) ∧ Below w.heap.size w w' := by
  by_cases hl : 1048576 < len
  · have hl' : (1048576 : Int) < (len : Int) := by omega
    go_enter Tryd.func7, Tryd.ntmps7
    go_wp2
    go_returns
    exact ⟨rfl, Below.refl _ _⟩
  · have hl' : (len : Int) ≤ 1048576 := by omega
    have HD := Lib.hid (drawVecProduct_any w a len cap h)
    have HG := Lib.hid hg
    clear h hg
    go_enter Tryd.func7, Tryd.ntmps7
    go_wp2_with fail
    refine Calls.mono HD.out ?_
    rintro e w0 ⟨x1, y1, x2, y2, rfl, hb0⟩
    have hA0 : Below w.heap.size w w0 := hb0
    clear hb0 HD
    cases k : twoOk x1 y1 x2 y2
    case false =>
      have H1 : Hid (∀ w' (hg' : EtOk w'), Calls Tryd.prog 26 #[.agg #[.int .i64 (x1), .int .i64 (y1)], .agg #[.int .i64 (x2), .int .i64 (y2)]] w' fun e w2 => e = .returned (.tuple #[.int .i64 (0), .bool false]) ∧ Below w'.heap.size w' w2) := fun w' hg' => giv (vecProduct_any x1 y1 x2 y2 w' hg') (by rw [k]; rfl)
      have H2 : Hid (∀ w', Calls Tryd.prog 28 #[.agg #[.int .i64 (x1), .int .i64 (y1)], .agg #[.int .i64 (x2), .int .i64 (y2)]] w' fun e w2 => e = .returned (.tuple #[.int .i64 (0), .bool false]) ∧ Below w'.heap.size w' w2) := fun w' => giv (specVecProduct_any x1 y1 x2 y2 w') (by rw [k]; rfl)
      go_wp2_with fail
      refine Calls.mono (H1.out _ (HG.out.below (by have := hA0.size; go_grown))) ?_
      rintro e w1 ⟨rfl, hb⟩
      have hA1 : Below w.heap.size w w1 := belowTo (by have := hA0.size; go_grown) hb
      have b0_0b0 : w1.cell? ⟨w0.heap.size, 0, none⟩ = some (.int .i64 (x1)) := (hb.cell (p := ⟨w0.heap.size, 0, none⟩) (by first | assumption | (go_size; done) | (simp; omega) | (simp only [World.size_alloc]; omega))).trans (by first | assumption | (go_cell; done) | (go_simp; done) | simp [*]); have b0_0b1 : w1.cell? ⟨w0.heap.size, 1, none⟩ = some (.int .i64 (y1)) := (hb.cell (p := ⟨w0.heap.size, 1, none⟩) (by first | assumption | (go_size; done) | (simp; omega) | (simp only [World.size_alloc]; omega))).trans (by first | assumption | (go_cell; done) | (go_simp; done) | simp [*]); have b0_0bs : w0.heap.size < w1.heap.size := Nat.lt_of_lt_of_le (by first | assumption | (go_size; done) | (simp; omega) | (simp only [World.size_alloc]; omega)) hb.size
      have b0_1b0 : w1.cell? ⟨w0.heap.size + 1, 0, none⟩ = some (.int .i64 (x2)) := (hb.cell (p := ⟨w0.heap.size + 1, 0, none⟩) (by first | assumption | (go_size; done) | (simp; omega) | (simp only [World.size_alloc]; omega))).trans (by first | assumption | (go_cell; done) | (go_simp; done) | simp [*]); have b0_1b1 : w1.cell? ⟨w0.heap.size + 1, 1, none⟩ = some (.int .i64 (y2)) := (hb.cell (p := ⟨w0.heap.size + 1, 1, none⟩) (by first | assumption | (go_size; done) | (simp; omega) | (simp only [World.size_alloc]; omega))).trans (by first | assumption | (go_cell; done) | (go_simp; done) | simp [*]); have b0_1bs : w0.heap.size + 1 < w1.heap.size := Nat.lt_of_lt_of_le (by first | assumption | (go_size; done) | (simp; omega) | (simp only [World.size_alloc]; omega)) hb.size
      clear hb hA0 
      go_wp2_with fail
      refine Calls.mono (H2.out _) ?_
      rintro e w2 ⟨rfl, hb⟩
      have hA2 : Below w.heap.size w w2 := belowTo (by have := hA1.size; go_grown) hb
      have b0_0c0 : w2.cell? ⟨w0.heap.size, 0, none⟩ = some (.int .i64 (x1)) := (hb.cell (p := ⟨w0.heap.size, 0, none⟩) (by first | assumption | (go_size; done) | (simp; omega) | (simp only [World.size_alloc]; omega))).trans (by first | assumption | (go_cell; done) | (go_simp; done) | simp [*]); have b0_0c1 : w2.cell? ⟨w0.heap.size, 1, none⟩ = some (.int .i64 (y1)) := (hb.cell (p := ⟨w0.heap.size, 1, none⟩) (by first | assumption | (go_size; done) | (simp; omega) | (simp only [World.size_alloc]; omega))).trans (by first | assumption | (go_cell; done) | (go_simp; done) | simp [*]); have b0_0cs : w0.heap.size < w2.heap.size := Nat.lt_of_lt_of_le (by first | assumption | (go_size; done) | (simp; omega) | (simp only [World.size_alloc]; omega)) hb.size
      have b0_1c0 : w2.cell? ⟨w0.heap.size + 1, 0, none⟩ = some (.int .i64 (x2)) := (hb.cell (p := ⟨w0.heap.size + 1, 0, none⟩) (by first | assumption | (go_size; done) | (simp; omega) | (simp only [World.size_alloc]; omega))).trans (by first | assumption | (go_cell; done) | (go_simp; done) | simp [*]); have b0_1c1 : w2.cell? ⟨w0.heap.size + 1, 1, none⟩ = some (.int .i64 (y2)) := (hb.cell (p := ⟨w0.heap.size + 1, 1, none⟩) (by first | assumption | (go_size; done) | (simp; omega) | (simp only [World.size_alloc]; omega))).trans (by first | assumption | (go_cell; done) | (go_simp; done) | simp [*]); have b0_1cs : w0.heap.size + 1 < w2.heap.size := Nat.lt_of_lt_of_le (by first | assumption | (go_size; done) | (simp; omega) | (simp only [World.size_alloc]; omega)) hb.size
      clear hb hA1 b0_0b0 b0_0b1 b0_0bs b0_1b0 b0_1b1 b0_1bs
      have hs2 := hA2.size
      go_wp2
      go_returns
      exact ⟨by simp, by go_grown⟩
    case true =>
      have H1 : Hid (∀ w' (hg' : EtOk w'), Calls Tryd.prog 26 #[.agg #[.int .i64 (x1), .int .i64 (y1)], .agg #[.int .i64 (x2), .int .i64 (y2)]] w' fun e w2 => e = .returned (.tuple #[.int .i64 (dotZ x1 y1 x2 y2), .bool true]) ∧ Below w'.heap.size w' w2) := fun w' hg' => giv (vecProduct_any x1 y1 x2 y2 w' hg') (by rw [k]; rfl)
      have H2 : Hid (∀ w', Calls Tryd.prog 28 #[.agg #[.int .i64 (x1), .int .i64 (y1)], .agg #[.int .i64 (x2), .int .i64 (y2)]] w' fun e w2 => e = .returned (.tuple #[.int .i64 (dotZ x1 y1 x2 y2), .bool true]) ∧ Below w'.heap.size w' w2) := fun w' => giv (specVecProduct_any x1 y1 x2 y2 w') (by rw [k]; rfl)
      obtain ⟨k1, k2⟩ := two_in k
      have q1 := dot_bd2 k1 k2
      have q2 := det_bd2 k1 k2
      have q3 := dot_bd2 k1 k1
      have q4 := dot_bd2 k2 k2
      have H3 : Hid (∀ w' (hg' : EtOk w'), Calls Tryd.prog 26 #[.agg #[.int .i64 (x2), .int .i64 (y2)], .agg #[.int .i64 (x1), .int .i64 (y1)]] w' fun e w2 => e = .returned (.tuple #[.int .i64 (dotZ x1 y1 x2 y2), .bool true]) ∧ Below w'.heap.size w' w2) := fun w' hg' => giv (vecProduct_any x2 y2 x1 y1 w' hg') (by rw [two_mk k2 k1, gate_true, show dotZ x2 y2 x1 y1 = dotZ x1 y1 x2 y2 by unfold dotZ; grind])
      have H4 : Hid (∀ w' (hg' : EtOk w'), Calls Tryd.prog 20 #[.agg #[.int .i64 (x1), .int .i64 (y1)], .agg #[.int .i64 (x2), .int .i64 (y2)]] w' fun e w2 => e = .returned (.tuple #[.int .i64 (detZ x1 y1 x2 y2), .bool true]) ∧ Below w'.heap.size w' w2) := fun w' hg' => giv (vecDet_any x1 y1 x2 y2 w' hg') (by rw [two_mk k1 k2, gate_true])
      have H5 : Hid (∀ w' (hg' : EtOk w'), Calls Tryd.prog 26 #[.agg #[.int .i64 (x1), .int .i64 (y1)], .agg #[.int .i64 (x1), .int .i64 (y1)]] w' fun e w2 => e = .returned (.tuple #[.int .i64 (dotZ x1 y1 x1 y1), .bool true]) ∧ Below w'.heap.size w' w2) := fun w' hg' => giv (vecProduct_any x1 y1 x1 y1 w' hg') (by rw [two_mk k1 k1, gate_true])
      have H6 : Hid (∀ w' (hg' : EtOk w'), Calls Tryd.prog 26 #[.agg #[.int .i64 (x2), .int .i64 (y2)], .agg #[.int .i64 (x2), .int .i64 (y2)]] w' fun e w2 => e = .returned (.tuple #[.int .i64 (dotZ x2 y2 x2 y2), .bool true]) ∧ Below w'.heap.size w' w2) := fun w' hg' => giv (vecProduct_any x2 y2 x2 y2 w' hg') (by rw [two_mk k2 k2, gate_true])
      have HE : dotZ x1 y1 x2 y2 * dotZ x1 y1 x2 y2 + detZ x1 y1 x2 y2 * detZ x1 y1 x2 y2 = dotZ x1 y1 x1 y1 * dotZ x2 y2 x2 y2 := by unfold dotZ detZ; grind
      generalize dotZ x1 y1 x2 y2 = d at *
      generalize detZ x1 y1 x2 y2 = t at *
      generalize dotZ x1 y1 x1 y1 = u at *
      generalize dotZ x2 y2 x2 y2 = v at *
      clear k k1 k2
      have m1 := sq_bd q1
      have m2 := sq_bd q2
      have m3 := mul_bd2 q3 q4
      clear q1 q2 q3 q4
      have e1 : IntKind.i64.wrap (d * d) = d * d := IntWalk.i64_in _ (by omega)
      have e2 : IntKind.i64.wrap (t * t) = t * t := IntWalk.i64_in _ (by omega)
      have e3 : IntKind.i64.wrap (u * v) = u * v := IntWalk.i64_in _ (by omega)
      have e4 : IntKind.i64.wrap (d * d + t * t) = u * v := (IntWalk.i64_in _ (by omega)).trans HE
      clear HE m1 m2 m3
      go_wp2_with fail
      refine Calls.mono (H1.out _ (HG.out.below (by have := hA0.size; go_grown))) ?_
      rintro e w1 ⟨rfl, hb⟩
      have hA1 : Below w.heap.size w w1 := belowTo (by have := hA0.size; go_grown) hb
      have b0_0b0 : w1.cell? ⟨w0.heap.size, 0, none⟩ = some (.int .i64 (x1)) := (hb.cell (p := ⟨w0.heap.size, 0, none⟩) (by first | assumption | (go_size; done) | (simp; omega) | (simp only [World.size_alloc]; omega))).trans (by first | assumption | (go_cell; done) | (go_simp; done) | simp [*]); have b0_0b1 : w1.cell? ⟨w0.heap.size, 1, none⟩ = some (.int .i64 (y1)) := (hb.cell (p := ⟨w0.heap.size, 1, none⟩) (by first | assumption | (go_size; done) | (simp; omega) | (simp only [World.size_alloc]; omega))).trans (by first | assumption | (go_cell; done) | (go_simp; done) | simp [*]); have b0_0bs : w0.heap.size < w1.heap.size := Nat.lt_of_lt_of_le (by first | assumption | (go_size; done) | (simp; omega) | (simp only [World.size_alloc]; omega)) hb.size
      have b0_1b0 : w1.cell? ⟨w0.heap.size + 1, 0, none⟩ = some (.int .i64 (x2)) := (hb.cell (p := ⟨w0.heap.size + 1, 0, none⟩) (by first | assumption | (go_size; done) | (simp; omega) | (simp only [World.size_alloc]; omega))).trans (by first | assumption | (go_cell; done) | (go_simp; done) | simp [*]); have b0_1b1 : w1.cell? ⟨w0.heap.size + 1, 1, none⟩ = some (.int .i64 (y2)) := (hb.cell (p := ⟨w0.heap.size + 1, 1, none⟩) (by first | assumption | (go_size; done) | (simp; omega) | (simp only [World.size_alloc]; omega))).trans (by first | assumption | (go_cell; done) | (go_simp; done) | simp [*]); have b0_1bs : w0.heap.size + 1 < w1.heap.size := Nat.lt_of_lt_of_le (by first | assumption | (go_size; done) | (simp; omega) | (simp only [World.size_alloc]; omega)) hb.size
      clear hb hA0 
      go_wp2_with fail
      refine Calls.mono (H2.out _) ?_
      rintro e w2 ⟨rfl, hb⟩
      have hA2 : Below w.heap.size w w2 := belowTo (by have := hA1.size; go_grown) hb
      have b0_0c0 : w2.cell? ⟨w0.heap.size, 0, none⟩ = some (.int .i64 (x1)) := (hb.cell (p := ⟨w0.heap.size, 0, none⟩) (by first | assumption | (go_size; done) | (simp; omega) | (simp only [World.size_alloc]; omega))).trans (by first | assumption | (go_cell; done) | (go_simp; done) | simp [*]); have b0_0c1 : w2.cell? ⟨w0.heap.size, 1, none⟩ = some (.int .i64 (y1)) := (hb.cell (p := ⟨w0.heap.size, 1, none⟩) (by first | assumption | (go_size; done) | (simp; omega) | (simp only [World.size_alloc]; omega))).trans (by first | assumption | (go_cell; done) | (go_simp; done) | simp [*]); have b0_0cs : w0.heap.size < w2.heap.size := Nat.lt_of_lt_of_le (by first | assumption | (go_size; done) | (simp; omega) | (simp only [World.size_alloc]; omega)) hb.size
      have b0_1c0 : w2.cell? ⟨w0.heap.size + 1, 0, none⟩ = some (.int .i64 (x2)) := (hb.cell (p := ⟨w0.heap.size + 1, 0, none⟩) (by first | assumption | (go_size; done) | (simp; omega) | (simp only [World.size_alloc]; omega))).trans (by first | assumption | (go_cell; done) | (go_simp; done) | simp [*]); have b0_1c1 : w2.cell? ⟨w0.heap.size + 1, 1, none⟩ = some (.int .i64 (y2)) := (hb.cell (p := ⟨w0.heap.size + 1, 1, none⟩) (by first | assumption | (go_size; done) | (simp; omega) | (simp only [World.size_alloc]; omega))).trans (by first | assumption | (go_cell; done) | (go_simp; done) | simp [*]); have b0_1cs : w0.heap.size + 1 < w2.heap.size := Nat.lt_of_lt_of_le (by first | assumption | (go_size; done) | (simp; omega) | (simp only [World.size_alloc]; omega)) hb.size
      clear hb hA1 b0_0b0 b0_0b1 b0_0bs b0_1b0 b0_1b1 b0_1bs
      go_wp2_with fail
      refine Calls.mono (H3.out _ (HG.out.below (by have := hA2.size; go_grown))) ?_
      rintro e w3 ⟨rfl, hb⟩
      have hA3 : Below w.heap.size w w3 := belowTo (by have := hA2.size; go_grown) hb
      have b0_0d0 : w3.cell? ⟨w0.heap.size, 0, none⟩ = some (.int .i64 (x1)) := (hb.cell (p := ⟨w0.heap.size, 0, none⟩) (by first | assumption | (go_size; done) | (simp; omega) | (simp only [World.size_alloc]; omega))).trans (by first | assumption | (go_cell; done) | (go_simp; done) | simp [*]); have b0_0d1 : w3.cell? ⟨w0.heap.size, 1, none⟩ = some (.int .i64 (y1)) := (hb.cell (p := ⟨w0.heap.size, 1, none⟩) (by first | assumption | (go_size; done) | (simp; omega) | (simp only [World.size_alloc]; omega))).trans (by first | assumption | (go_cell; done) | (go_simp; done) | simp [*]); have b0_0ds : w0.heap.size < w3.heap.size := Nat.lt_of_lt_of_le (by first | assumption | (go_size; done) | (simp; omega) | (simp only [World.size_alloc]; omega)) hb.size
      have b0_1d0 : w3.cell? ⟨w0.heap.size + 1, 0, none⟩ = some (.int .i64 (x2)) := (hb.cell (p := ⟨w0.heap.size + 1, 0, none⟩) (by first | assumption | (go_size; done) | (simp; omega) | (simp only [World.size_alloc]; omega))).trans (by first | assumption | (go_cell; done) | (go_simp; done) | simp [*]); have b0_1d1 : w3.cell? ⟨w0.heap.size + 1, 1, none⟩ = some (.int .i64 (y2)) := (hb.cell (p := ⟨w0.heap.size + 1, 1, none⟩) (by first | assumption | (go_size; done) | (simp; omega) | (simp only [World.size_alloc]; omega))).trans (by first | assumption | (go_cell; done) | (go_simp; done) | simp [*]); have b0_1ds : w0.heap.size + 1 < w3.heap.size := Nat.lt_of_lt_of_le (by first | assumption | (go_size; done) | (simp; omega) | (simp only [World.size_alloc]; omega)) hb.size
      clear hb hA2 b0_0c0 b0_0c1 b0_0cs b0_1c0 b0_1c1 b0_1cs
      go_wp2_with fail
      refine Calls.mono (H4.out _ (HG.out.below (by have := hA3.size; go_grown))) ?_
      rintro e w4 ⟨rfl, hb⟩
      have hA4 : Below w.heap.size w w4 := belowTo (by have := hA3.size; go_grown) hb
      have b0_0e0 : w4.cell? ⟨w0.heap.size, 0, none⟩ = some (.int .i64 (x1)) := (hb.cell (p := ⟨w0.heap.size, 0, none⟩) (by first | assumption | (go_size; done) | (simp; omega) | (simp only [World.size_alloc]; omega))).trans (by first | assumption | (go_cell; done) | (go_simp; done) | simp [*]); have b0_0e1 : w4.cell? ⟨w0.heap.size, 1, none⟩ = some (.int .i64 (y1)) := (hb.cell (p := ⟨w0.heap.size, 1, none⟩) (by first | assumption | (go_size; done) | (simp; omega) | (simp only [World.size_alloc]; omega))).trans (by first | assumption | (go_cell; done) | (go_simp; done) | simp [*]); have b0_0es : w0.heap.size < w4.heap.size := Nat.lt_of_lt_of_le (by first | assumption | (go_size; done) | (simp; omega) | (simp only [World.size_alloc]; omega)) hb.size
      have b0_1e0 : w4.cell? ⟨w0.heap.size + 1, 0, none⟩ = some (.int .i64 (x2)) := (hb.cell (p := ⟨w0.heap.size + 1, 0, none⟩) (by first | assumption | (go_size; done) | (simp; omega) | (simp only [World.size_alloc]; omega))).trans (by first | assumption | (go_cell; done) | (go_simp; done) | simp [*]); have b0_1e1 : w4.cell? ⟨w0.heap.size + 1, 1, none⟩ = some (.int .i64 (y2)) := (hb.cell (p := ⟨w0.heap.size + 1, 1, none⟩) (by first | assumption | (go_size; done) | (simp; omega) | (simp only [World.size_alloc]; omega))).trans (by first | assumption | (go_cell; done) | (go_simp; done) | simp [*]); have b0_1es : w0.heap.size + 1 < w4.heap.size := Nat.lt_of_lt_of_le (by first | assumption | (go_size; done) | (simp; omega) | (simp only [World.size_alloc]; omega)) hb.size
      clear hb hA3 b0_0d0 b0_0d1 b0_0ds b0_1d0 b0_1d1 b0_1ds
      go_wp2_with fail
      refine Calls.mono (H5.out _ (HG.out.below (by have := hA4.size; go_grown))) ?_
      rintro e w5 ⟨rfl, hb⟩
      have hA5 : Below w.heap.size w w5 := belowTo (by have := hA4.size; go_grown) hb
      have b0_0f0 : w5.cell? ⟨w0.heap.size, 0, none⟩ = some (.int .i64 (x1)) := (hb.cell (p := ⟨w0.heap.size, 0, none⟩) (by first | assumption | (go_size; done) | (simp; omega) | (simp only [World.size_alloc]; omega))).trans (by first | assumption | (go_cell; done) | (go_simp; done) | simp [*]); have b0_0f1 : w5.cell? ⟨w0.heap.size, 1, none⟩ = some (.int .i64 (y1)) := (hb.cell (p := ⟨w0.heap.size, 1, none⟩) (by first | assumption | (go_size; done) | (simp; omega) | (simp only [World.size_alloc]; omega))).trans (by first | assumption | (go_cell; done) | (go_simp; done) | simp [*]); have b0_0fs : w0.heap.size < w5.heap.size := Nat.lt_of_lt_of_le (by first | assumption | (go_size; done) | (simp; omega) | (simp only [World.size_alloc]; omega)) hb.size
      have b0_1f0 : w5.cell? ⟨w0.heap.size + 1, 0, none⟩ = some (.int .i64 (x2)) := (hb.cell (p := ⟨w0.heap.size + 1, 0, none⟩) (by first | assumption | (go_size; done) | (simp; omega) | (simp only [World.size_alloc]; omega))).trans (by first | assumption | (go_cell; done) | (go_simp; done) | simp [*]); have b0_1f1 : w5.cell? ⟨w0.heap.size + 1, 1, none⟩ = some (.int .i64 (y2)) := (hb.cell (p := ⟨w0.heap.size + 1, 1, none⟩) (by first | assumption | (go_size; done) | (simp; omega) | (simp only [World.size_alloc]; omega))).trans (by first | assumption | (go_cell; done) | (go_simp; done) | simp [*]); have b0_1fs : w0.heap.size + 1 < w5.heap.size := Nat.lt_of_lt_of_le (by first | assumption | (go_size; done) | (simp; omega) | (simp only [World.size_alloc]; omega)) hb.size
      clear hb hA4 b0_0e0 b0_0e1 b0_0es b0_1e0 b0_1e1 b0_1es
      go_wp2_with fail
      refine Calls.mono (H6.out _ (HG.out.below (by have := hA5.size; go_grown))) ?_
      rintro e w6 ⟨rfl, hb⟩
      have hA6 : Below w.heap.size w w6 := belowTo (by have := hA5.size; go_grown) hb
      have b0_0g0 : w6.cell? ⟨w0.heap.size, 0, none⟩ = some (.int .i64 (x1)) := (hb.cell (p := ⟨w0.heap.size, 0, none⟩) (by first | assumption | (go_size; done) | (simp; omega) | (simp only [World.size_alloc]; omega))).trans (by first | assumption | (go_cell; done) | (go_simp; done) | simp [*]); have b0_0g1 : w6.cell? ⟨w0.heap.size, 1, none⟩ = some (.int .i64 (y1)) := (hb.cell (p := ⟨w0.heap.size, 1, none⟩) (by first | assumption | (go_size; done) | (simp; omega) | (simp only [World.size_alloc]; omega))).trans (by first | assumption | (go_cell; done) | (go_simp; done) | simp [*]); have b0_0gs : w0.heap.size < w6.heap.size := Nat.lt_of_lt_of_le (by first | assumption | (go_size; done) | (simp; omega) | (simp only [World.size_alloc]; omega)) hb.size
      have b0_1g0 : w6.cell? ⟨w0.heap.size + 1, 0, none⟩ = some (.int .i64 (x2)) := (hb.cell (p := ⟨w0.heap.size + 1, 0, none⟩) (by first | assumption | (go_size; done) | (simp; omega) | (simp only [World.size_alloc]; omega))).trans (by first | assumption | (go_cell; done) | (go_simp; done) | simp [*]); have b0_1g1 : w6.cell? ⟨w0.heap.size + 1, 1, none⟩ = some (.int .i64 (y2)) := (hb.cell (p := ⟨w0.heap.size + 1, 1, none⟩) (by first | assumption | (go_size; done) | (simp; omega) | (simp only [World.size_alloc]; omega))).trans (by first | assumption | (go_cell; done) | (go_simp; done) | simp [*]); have b0_1gs : w0.heap.size + 1 < w6.heap.size := Nat.lt_of_lt_of_le (by first | assumption | (go_size; done) | (simp; omega) | (simp only [World.size_alloc]; omega)) hb.size
      clear hb hA5 b0_0f0 b0_0f1 b0_0fs b0_1f0 b0_1f1 b0_1fs
      have hs6 := hA6.size
      go_wp2
      go_returns
      exact ⟨by simp, by go_grown⟩
end Go.Proofs.YtnemmgnipmjpcaaDoor
