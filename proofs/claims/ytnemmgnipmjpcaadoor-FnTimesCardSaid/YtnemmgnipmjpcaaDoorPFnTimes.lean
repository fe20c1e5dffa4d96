/- FnTimes. -/
import Derived.Test.YtnemmgnipmjpcaaDoorPw
namespace Go.Proofs.YtnemmgnipmjpcaaDoor
open Go.RowKit

theorem times_in {x y n : Int} (h : timesOk x y n = true) : vecB x y = true ∧ szB n = true ∧ vecB (x * n) (y * n) = true := by
  unfold timesOk at h
  simp only [Bool.and_eq_true] at h
  exact ⟨h.1.1, h.1.2, h.2⟩
set_option maxHeartbeats 8000000 in
theorem fnTimes_any (a : Option Addr) (len cap : Nat) (w : World) (h : Bytes w a len cap) (hg : EtOk w) :
    Calls Tryd.prog 5 #[.slice a len cap] w fun e w' => e = .returned (.bool true) ∧ Below w.heap.size w w' := by
  by_cases hl : 1048576 < len
  · have hl' : (1048576 : Int) < (len : Int) := by omega
    go_enter Tryd.func5, Tryd.ntmps5
    go_wp2
    go_returns
    exact ⟨rfl, Below.refl _ _⟩
  · have hl' : (len : Int) ≤ 1048576 := by omega
    have HD := Lib.hid (drawVecTimes_any w a len cap h)
    have HG := Lib.hid hg
    clear h hg
    go_enter Tryd.func5, Tryd.ntmps5
    go_wp2_with fail
    refine Calls.mono HD.out ?_
    rintro e w0 ⟨x, y, n, rfl, hb0⟩
    have hA0 : Below w.heap.size w w0 := hb0
    clear hb0 HD
    cases k : timesOk x y n
    case false =>
      have H1 : Hid (∀ w' (hg' : EtOk w'), Calls Tryd.prog 16 #[.agg #[.int .i64 (x), .int .i64 (y)], .int .i64 (n)] w' fun e w2 => e = .returned (.tuple #[.agg #[.int .i64 (0), .int .i64 (0)], .bool false]) ∧ Below w'.heap.size w' w2) := fun w' hg' => giv (vecTimes_any x y n w' hg') (by rw [k]; rfl)
      have H2 : Hid (∀ w', Calls Tryd.prog 22 #[.agg #[.int .i64 (x), .int .i64 (y)], .int .i64 (n)] w' fun e w2 => e = .returned (.tuple #[.agg #[.int .i64 (0), .int .i64 (0)], .bool false]) ∧ Below w'.heap.size w' w2) := fun w' => giv (specVecTimes_any x y n w') (by rw [k]; rfl)
      go_wp2_with fail
      refine Calls.mono (H1.out _ (HG.out.below (by have := hA0.size; go_grown))) ?_
      rintro e w1 ⟨rfl, hb⟩
      have hA1 : Below w.heap.size w w1 := belowTo (by have := hA0.size; go_grown) hb
      have b0_0b0 : w1.cell? ⟨w0.heap.size, 0, none⟩ = some (.int .i64 (x)) := (hb.cell (p := ⟨w0.heap.size, 0, none⟩) (by first | assumption | (go_size; done) | (simp; omega) | (simp only [World.size_alloc]; omega))).trans (by first | assumption | (go_cell; done) | (go_simp; done) | simp [*]); have b0_0b1 : w1.cell? ⟨w0.heap.size, 1, none⟩ = some (.int .i64 (y)) := (hb.cell (p := ⟨w0.heap.size, 1, none⟩) (by first | assumption | (go_size; done) | (simp; omega) | (simp only [World.size_alloc]; omega))).trans (by first | assumption | (go_cell; done) | (go_simp; done) | simp [*]); have b0_0bs : w0.heap.size < w1.heap.size := Nat.lt_of_lt_of_le (by first | assumption | (go_size; done) | (simp; omega) | (simp only [World.size_alloc]; omega)) hb.size
      clear hb hA0 
      go_wp2_with fail
      refine Calls.mono (H2.out _) ?_
      rintro e w2 ⟨rfl, hb⟩
      have hA2 : Below w.heap.size w w2 := belowTo (by have := hA1.size; go_grown) hb
      have b0_0c0 : w2.cell? ⟨w0.heap.size, 0, none⟩ = some (.int .i64 (x)) := (hb.cell (p := ⟨w0.heap.size, 0, none⟩) (by first | assumption | (go_size; done) | (simp; omega) | (simp only [World.size_alloc]; omega))).trans (by first | assumption | (go_cell; done) | (go_simp; done) | simp [*]); have b0_0c1 : w2.cell? ⟨w0.heap.size, 1, none⟩ = some (.int .i64 (y)) := (hb.cell (p := ⟨w0.heap.size, 1, none⟩) (by first | assumption | (go_size; done) | (simp; omega) | (simp only [World.size_alloc]; omega))).trans (by first | assumption | (go_cell; done) | (go_simp; done) | simp [*]); have b0_0cs : w0.heap.size < w2.heap.size := Nat.lt_of_lt_of_le (by first | assumption | (go_size; done) | (simp; omega) | (simp only [World.size_alloc]; omega)) hb.size
      have b1_0c0 : w2.cell? ⟨w1.heap.size, 0, none⟩ = some (.int .i64 (0)) := (hb.cell (p := ⟨w1.heap.size, 0, none⟩) (by first | assumption | (go_size; done) | (simp; omega) | (simp only [World.size_alloc]; omega))).trans (by first | assumption | (go_cell; done) | (go_simp; done) | simp [*]); have b1_0c1 : w2.cell? ⟨w1.heap.size, 1, none⟩ = some (.int .i64 (0)) := (hb.cell (p := ⟨w1.heap.size, 1, none⟩) (by first | assumption | (go_size; done) | (simp; omega) | (simp only [World.size_alloc]; omega))).trans (by first | assumption | (go_cell; done) | (go_simp; done) | simp [*]); have b1_0cs : w1.heap.size < w2.heap.size := Nat.lt_of_lt_of_le (by first | assumption | (go_size; done) | (simp; omega) | (simp only [World.size_alloc]; omega)) hb.size
      clear hb hA1 b0_0b0 b0_0b1 b0_0bs
      have hs2 := hA2.size
      go_wp2
      go_returns
      exact ⟨by simp, by go_grown⟩
    case true =>
      have H1 : Hid (∀ w' (hg' : EtOk w'), Calls Tryd.prog 16 #[.agg #[.int .i64 (x), .int .i64 (y)], .int .i64 (n)] w' fun e w2 => e = .returned (.tuple #[.agg #[.int .i64 (x * n), .int .i64 (y * n)], .bool true]) ∧ Below w'.heap.size w' w2) := fun w' hg' => giv (vecTimes_any x y n w' hg') (by rw [k]; rfl)
      have H2 : Hid (∀ w', Calls Tryd.prog 22 #[.agg #[.int .i64 (x), .int .i64 (y)], .int .i64 (n)] w' fun e w2 => e = .returned (.tuple #[.agg #[.int .i64 (x * n), .int .i64 (y * n)], .bool true]) ∧ Below w'.heap.size w' w2) := fun w' => giv (specVecTimes_any x y n w') (by rw [k]; rfl)
      obtain ⟨k1, k2, k3⟩ := times_in k
      obtain ⟨_, _⟩ := szB_true k2
      have H3 : Hid (∀ w' (hg' : EtOk w'), Calls Tryd.prog 20 #[.agg #[.int .i64 (x), .int .i64 (y)], .agg #[.int .i64 (x * n), .int .i64 (y * n)]] w' fun e w2 => e = .returned (.tuple #[.int .i64 (0), .bool true]) ∧ Below w'.heap.size w' w2) := fun w' hg' => giv (vecDet_any x y (x * n) (y * n) w' hg') (by rw [two_mk k1 k3, gate_true, show detZ x y (x * n) (y * n) = 0 by unfold detZ; grind])
      have H4 : Hid (∀ w' (hg' : EtOk w'), Calls Tryd.prog 16 #[.agg #[.int .i64 (x), .int .i64 (y)], .int .i64 (n + 1)] w' fun e w2 => e = .returned (.tuple #[.agg #[.int .i64 (gate (timesOk x y (n + 1)) (x * (n + 1))), .int .i64 (gate (timesOk x y (n + 1)) (y * (n + 1)))], .bool (timesOk x y (n + 1))]) ∧ Below w'.heap.size w' w2) := fun w' hg' => giv (vecTimes_any x y (n + 1) w' hg') (rfl)
      have H5 : Hid (∀ w' (hg' : EtOk w'), Calls Tryd.prog 17 #[.agg #[.int .i64 (x * n), .int .i64 (y * n)], .agg #[.int .i64 (x), .int .i64 (y)]] w' fun e w2 => e = .returned (.tuple #[.agg #[.int .i64 (gate (addOk (x * n) (y * n) x y) (x * n + x)), .int .i64 (gate (addOk (x * n) (y * n) x y) (y * n + y))], .bool (addOk (x * n) (y * n) x y)]) ∧ Below w'.heap.size w' w2) := fun w' hg' => giv (vecAdd_any (x * n) (y * n) x y w' hg') (rfl)
      have HE : Hid (timesOk x y (n + 1) = true → addOk (x * n) (y * n) x y = true → gate (timesOk x y (n + 1)) (x * (n + 1)) = gate (addOk (x * n) (y * n) x y) (x * n + x) ∧ gate (timesOk x y (n + 1)) (y * (n + 1)) = gate (addOk (x * n) (y * n) x y) (y * n + y)) := fun h1 h2 => by rw [h1, h2, gate_true, gate_true, gate_true, gate_true, Int.mul_add, Int.mul_add, Int.mul_one, Int.mul_one]; exact ⟨rfl, rfl⟩
      generalize gate (timesOk x y (n + 1)) (x * (n + 1)) = gx at *
      generalize gate (timesOk x y (n + 1)) (y * (n + 1)) = gy at *
      generalize timesOk x y (n + 1) = b5 at *
      generalize gate (addOk (x * n) (y * n) x y) (x * n + x) = hx at *
      generalize gate (addOk (x * n) (y * n) x y) (y * n + y) = hy at *
      generalize addOk (x * n) (y * n) x y = b6 at *
      generalize x * n = p at *
      generalize y * n = q at *
      have e1 : IntKind.i64.wrap (n + 1) = n + 1 := IntWalk.i64_in _ (by omega)
      clear k k1 k2 k3
      go_wp2_with fail
      refine Calls.mono (H1.out _ (HG.out.below (by have := hA0.size; go_grown))) ?_
      rintro e w1 ⟨rfl, hb⟩
      have hA1 : Below w.heap.size w w1 := belowTo (by have := hA0.size; go_grown) hb
      have b0_0b0 : w1.cell? ⟨w0.heap.size, 0, none⟩ = some (.int .i64 (x)) := (hb.cell (p := ⟨w0.heap.size, 0, none⟩) (by first | assumption | (go_size; done) | (simp; omega) | (simp only [World.size_alloc]; omega))).trans (by first | assumption | (go_cell; done) | (go_simp; done) | simp [*]); have b0_0b1 : w1.cell? ⟨w0.heap.size, 1, none⟩ = some (.int .i64 (y)) := (hb.cell (p := ⟨w0.heap.size, 1, none⟩) (by first | assumption | (go_size; done) | (simp; omega) | (simp only [World.size_alloc]; omega))).trans (by first | assumption | (go_cell; done) | (go_simp; done) | simp [*]); have b0_0bs : w0.heap.size < w1.heap.size := Nat.lt_of_lt_of_le (by first | assumption | (go_size; done) | (simp; omega) | (simp only [World.size_alloc]; omega)) hb.size
      clear hb hA0 
      go_wp2_with fail
      refine Calls.mono (H2.out _) ?_
      rintro e w2 ⟨rfl, hb⟩
      have hA2 : Below w.heap.size w w2 := belowTo (by have := hA1.size; go_grown) hb
      have b0_0c0 : w2.cell? ⟨w0.heap.size, 0, none⟩ = some (.int .i64 (x)) := (hb.cell (p := ⟨w0.heap.size, 0, none⟩) (by first | assumption | (go_size; done) | (simp; omega) | (simp only [World.size_alloc]; omega))).trans (by first | assumption | (go_cell; done) | (go_simp; done) | simp [*]); have b0_0c1 : w2.cell? ⟨w0.heap.size, 1, none⟩ = some (.int .i64 (y)) := (hb.cell (p := ⟨w0.heap.size, 1, none⟩) (by first | assumption | (go_size; done) | (simp; omega) | (simp only [World.size_alloc]; omega))).trans (by first | assumption | (go_cell; done) | (go_simp; done) | simp [*]); have b0_0cs : w0.heap.size < w2.heap.size := Nat.lt_of_lt_of_le (by first | assumption | (go_size; done) | (simp; omega) | (simp only [World.size_alloc]; omega)) hb.size
      have b1_0c0 : w2.cell? ⟨w1.heap.size, 0, none⟩ = some (.int .i64 (p)) := (hb.cell (p := ⟨w1.heap.size, 0, none⟩) (by first | assumption | (go_size; done) | (simp; omega) | (simp only [World.size_alloc]; omega))).trans (by first | assumption | (go_cell; done) | (go_simp; done) | simp [*]); have b1_0c1 : w2.cell? ⟨w1.heap.size, 1, none⟩ = some (.int .i64 (q)) := (hb.cell (p := ⟨w1.heap.size, 1, none⟩) (by first | assumption | (go_size; done) | (simp; omega) | (simp only [World.size_alloc]; omega))).trans (by first | assumption | (go_cell; done) | (go_simp; done) | simp [*]); have b1_0cs : w1.heap.size < w2.heap.size := Nat.lt_of_lt_of_le (by first | assumption | (go_size; done) | (simp; omega) | (simp only [World.size_alloc]; omega)) hb.size
      clear hb hA1 b0_0b0 b0_0b1 b0_0bs
      go_wp2_with fail
      refine Calls.mono (H3.out _ (HG.out.below (by have := hA2.size; go_grown))) ?_
      rintro e w3 ⟨rfl, hb⟩
      have hA3 : Below w.heap.size w w3 := belowTo (by have := hA2.size; go_grown) hb
      have b0_0d0 : w3.cell? ⟨w0.heap.size, 0, none⟩ = some (.int .i64 (x)) := (hb.cell (p := ⟨w0.heap.size, 0, none⟩) (by first | assumption | (go_size; done) | (simp; omega) | (simp only [World.size_alloc]; omega))).trans (by first | assumption | (go_cell; done) | (go_simp; done) | simp [*]); have b0_0d1 : w3.cell? ⟨w0.heap.size, 1, none⟩ = some (.int .i64 (y)) := (hb.cell (p := ⟨w0.heap.size, 1, none⟩) (by first | assumption | (go_size; done) | (simp; omega) | (simp only [World.size_alloc]; omega))).trans (by first | assumption | (go_cell; done) | (go_simp; done) | simp [*]); have b0_0ds : w0.heap.size < w3.heap.size := Nat.lt_of_lt_of_le (by first | assumption | (go_size; done) | (simp; omega) | (simp only [World.size_alloc]; omega)) hb.size
      have b1_0d0 : w3.cell? ⟨w1.heap.size, 0, none⟩ = some (.int .i64 (p)) := (hb.cell (p := ⟨w1.heap.size, 0, none⟩) (by first | assumption | (go_size; done) | (simp; omega) | (simp only [World.size_alloc]; omega))).trans (by first | assumption | (go_cell; done) | (go_simp; done) | simp [*]); have b1_0d1 : w3.cell? ⟨w1.heap.size, 1, none⟩ = some (.int .i64 (q)) := (hb.cell (p := ⟨w1.heap.size, 1, none⟩) (by first | assumption | (go_size; done) | (simp; omega) | (simp only [World.size_alloc]; omega))).trans (by first | assumption | (go_cell; done) | (go_simp; done) | simp [*]); have b1_0ds : w1.heap.size < w3.heap.size := Nat.lt_of_lt_of_le (by first | assumption | (go_size; done) | (simp; omega) | (simp only [World.size_alloc]; omega)) hb.size
      clear hb hA2 b0_0c0 b0_0c1 b0_0cs b1_0c0 b1_0c1 b1_0cs
      go_wp2_with fail
      refine Calls.mono (H4.out _ (HG.out.below (by have := hA3.size; go_grown))) ?_
      rintro e w4 ⟨rfl, hb⟩
      have hA4 : Below w.heap.size w w4 := belowTo (by have := hA3.size; go_grown) hb
      have b0_0e0 : w4.cell? ⟨w0.heap.size, 0, none⟩ = some (.int .i64 (x)) := (hb.cell (p := ⟨w0.heap.size, 0, none⟩) (by first | assumption | (go_size; done) | (simp; omega) | (simp only [World.size_alloc]; omega))).trans (by first | assumption | (go_cell; done) | (go_simp; done) | simp [*]); have b0_0e1 : w4.cell? ⟨w0.heap.size, 1, none⟩ = some (.int .i64 (y)) := (hb.cell (p := ⟨w0.heap.size, 1, none⟩) (by first | assumption | (go_size; done) | (simp; omega) | (simp only [World.size_alloc]; omega))).trans (by first | assumption | (go_cell; done) | (go_simp; done) | simp [*]); have b0_0es : w0.heap.size < w4.heap.size := Nat.lt_of_lt_of_le (by first | assumption | (go_size; done) | (simp; omega) | (simp only [World.size_alloc]; omega)) hb.size
      have b1_0e0 : w4.cell? ⟨w1.heap.size, 0, none⟩ = some (.int .i64 (p)) := (hb.cell (p := ⟨w1.heap.size, 0, none⟩) (by first | assumption | (go_size; done) | (simp; omega) | (simp only [World.size_alloc]; omega))).trans (by first | assumption | (go_cell; done) | (go_simp; done) | simp [*]); have b1_0e1 : w4.cell? ⟨w1.heap.size, 1, none⟩ = some (.int .i64 (q)) := (hb.cell (p := ⟨w1.heap.size, 1, none⟩) (by first | assumption | (go_size; done) | (simp; omega) | (simp only [World.size_alloc]; omega))).trans (by first | assumption | (go_cell; done) | (go_simp; done) | simp [*]); have b1_0es : w1.heap.size < w4.heap.size := Nat.lt_of_lt_of_le (by first | assumption | (go_size; done) | (simp; omega) | (simp only [World.size_alloc]; omega)) hb.size
      clear hb hA3 b0_0d0 b0_0d1 b0_0ds b1_0d0 b1_0d1 b1_0ds
      go_wp2_with fail
      refine Calls.mono (H5.out _ (HG.out.below (by have := hA4.size; go_grown))) ?_
      rintro e w5 ⟨rfl, hb⟩
      have hA5 : Below w.heap.size w w5 := belowTo (by have := hA4.size; go_grown) hb
      have b0_0f0 : w5.cell? ⟨w0.heap.size, 0, none⟩ = some (.int .i64 (x)) := (hb.cell (p := ⟨w0.heap.size, 0, none⟩) (by first | assumption | (go_size; done) | (simp; omega) | (simp only [World.size_alloc]; omega))).trans (by first | assumption | (go_cell; done) | (go_simp; done) | simp [*]); have b0_0f1 : w5.cell? ⟨w0.heap.size, 1, none⟩ = some (.int .i64 (y)) := (hb.cell (p := ⟨w0.heap.size, 1, none⟩) (by first | assumption | (go_size; done) | (simp; omega) | (simp only [World.size_alloc]; omega))).trans (by first | assumption | (go_cell; done) | (go_simp; done) | simp [*]); have b0_0fs : w0.heap.size < w5.heap.size := Nat.lt_of_lt_of_le (by first | assumption | (go_size; done) | (simp; omega) | (simp only [World.size_alloc]; omega)) hb.size
      have b1_0f0 : w5.cell? ⟨w1.heap.size, 0, none⟩ = some (.int .i64 (p)) := (hb.cell (p := ⟨w1.heap.size, 0, none⟩) (by first | assumption | (go_size; done) | (simp; omega) | (simp only [World.size_alloc]; omega))).trans (by first | assumption | (go_cell; done) | (go_simp; done) | simp [*]); have b1_0f1 : w5.cell? ⟨w1.heap.size, 1, none⟩ = some (.int .i64 (q)) := (hb.cell (p := ⟨w1.heap.size, 1, none⟩) (by first | assumption | (go_size; done) | (simp; omega) | (simp only [World.size_alloc]; omega))).trans (by first | assumption | (go_cell; done) | (go_simp; done) | simp [*]); have b1_0fs : w1.heap.size < w5.heap.size := Nat.lt_of_lt_of_le (by first | assumption | (go_size; done) | (simp; omega) | (simp only [World.size_alloc]; omega)) hb.size
      have b4_0f0 : w5.cell? ⟨w4.heap.size, 0, none⟩ = some (.int .i64 (gx)) := (hb.cell (p := ⟨w4.heap.size, 0, none⟩) (by first | assumption | (go_size; done) | (simp; omega) | (simp only [World.size_alloc]; omega))).trans (by first | assumption | (go_cell; done) | (go_simp; done) | simp [*]); have b4_0f1 : w5.cell? ⟨w4.heap.size, 1, none⟩ = some (.int .i64 (gy)) := (hb.cell (p := ⟨w4.heap.size, 1, none⟩) (by first | assumption | (go_size; done) | (simp; omega) | (simp only [World.size_alloc]; omega))).trans (by first | assumption | (go_cell; done) | (go_simp; done) | simp [*]); have b4_0fs : w4.heap.size < w5.heap.size := Nat.lt_of_lt_of_le (by first | assumption | (go_size; done) | (simp; omega) | (simp only [World.size_alloc]; omega)) hb.size
      clear hb hA4 b0_0e0 b0_0e1 b0_0es b1_0e0 b1_0e1 b1_0es
      have hs5 := hA5.size
      cases b5
      case false =>
        go_wp2
        go_returns
        exact ⟨by simp, by go_grown⟩
      case true =>
        cases b6
        case false =>
          go_wp2
          go_returns
          exact ⟨by simp, by go_grown⟩
        case true =>
          obtain ⟨rfl, rfl⟩ := HE.out rfl rfl
          go_wp2
          go_returns
          exact ⟨by simp, by go_grown⟩
end Go.Proofs.YtnemmgnipmjpcaaDoor
