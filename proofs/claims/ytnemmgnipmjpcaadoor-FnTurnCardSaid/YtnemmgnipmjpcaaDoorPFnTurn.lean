/- FnTurn. -/
import Derived.Test.YtnemmgnipmjpcaaDoorPv
namespace Go.Proofs.YtnemmgnipmjpcaaDoor
open Go.RowKit

set_option maxHeartbeats 8000000 in
theorem fnTurn_any (a : Option Addr) (len cap : Nat) (w : World) (h : Bytes w a len cap) (hg : EtOk w) :
    Calls Tryd.prog 9 #[.slice a len cap] w fun e w' => e = .returned (.bool true) ∧ Below w.heap.size w w' := by
  by_cases hl : 1048576 < len
  · have hl' : (1048576 : Int) < (len : Int) := by omega
    go_enter Tryd.func9, Tryd.ntmps9
    go_wp2
    go_returns
    exact ⟨rfl, Below.refl _ _⟩
  · have hl' : (len : Int) ≤ 1048576 := by omega
    have HD := Lib.hid (drawVecTurn_any w a len cap h)
    have HG := Lib.hid hg
    clear h hg
    go_enter Tryd.func9, Tryd.ntmps9
    go_wp2_with fail
    refine Calls.mono HD.out ?_
    rintro e w0 ⟨x, y, rfl, hb0⟩
    have hA0 : Below w.heap.size w w0 := hb0
    clear hb0 HD
    cases k : vecB x y
    case false =>
      have H1 : Hid (∀ w' (hg' : EtOk w'), Calls Tryd.prog 25 #[.agg #[.int .i64 (x), .int .i64 (y)]] w' fun e w2 => e = .returned (.tuple #[.agg #[.int .i64 (0), .int .i64 (0)], .bool false]) ∧ Below w'.heap.size w' w2) := fun w' hg' => giv (vecTurn_any x y w' hg') (by rw [k]; rfl)
      have H2 : Hid (∀ w', Calls Tryd.prog 33 #[.agg #[.int .i64 (x), .int .i64 (y)]] w' fun e w2 => e = .returned (.tuple #[.agg #[.int .i64 (0), .int .i64 (0)], .bool false]) ∧ Below w'.heap.size w' w2) := fun w' => giv (specVecTurn_any x y w') (by rw [k]; rfl)
      go_wp2_with fail
      refine Calls.mono (H1.out _ (HG.out.below (by have := hA0.size; go_grown))) ?_
      rintro e w1 ⟨rfl, hb⟩
      have hA1 : Below w.heap.size w w1 := belowTo (by have := hA0.size; go_grown) hb
      have b0_0b0 : w1.cell? ⟨w0.heap.size, 0, none⟩ = some (.int .i64 (x)) := (hb.cell (p := ⟨w0.heap.size, 0, none⟩) (by first | assumption | (go_size; done) | (simp; omega) | (simp only [World.size_alloc]; omega))).trans (by first | assumption | (go_cell; done) | (go_simp; done) | simp [*]); have b0_0b1 : w1.cell? ⟨w0.heap.size, 1, none⟩ = some (.int .i64 (y)) := (hb.cell (p := ⟨w0.heap.size, 1, none⟩) (by first | assumption | (go_size; done) | (simp; omega) | (simp only [World.size_alloc]; omega))).trans (by first | assumption | (go_cell; done) | (go_simp; done) | simp [*]); have b0_0bs : w0.heap.size < w1.heap.size := Nat.lt_of_lt_of_le (by first | assumption | (go_size; done) | (simp; omega) | (simp only [World.size_alloc]; omega)) hb.size
      clear hb hA0 
      go_wp2_with fail
      refine Calls.mono (H2.out _) ?_
      rintro e w2 ⟨rfl, hb⟩
      have hA2 : Below w.heap.size w w2 := belowTo (by have := hA1.size; go_grown) hb
      have b0_0c0 : w2.cell? ⟨w0.heap.size, 0, none⟩ = some (.int .i64 (x)) := (hb.cell (p := ⟨w0.heap.size, 0, none⟩) (by first | assumption | (go_size; done) | (simp; omega) | (simp only [World.size_alloc]; omega))).trans (by first | assumption | (go_cell; done) | (go_simp; done) | simp [*]); have b0_0c1 : w2.cell? ⟨w0.heap.size, 1, none⟩ = some (.int .i64 (y)) := (hb.cell (p := ⟨w0.heap.size, 1, none⟩) (by first | assumption | (go_size; done) | (simp; omega) | (simp only [World.size_alloc]; omega))).trans (by first | assumption | (go_cell; done) | (go_simp; done) | simp [*]); have b0_0cs : w0.heap.size < w2.heap.size := Nat.lt_of_lt_of_le (by first | assumption | (go_size; done) | (simp; omega) | (simp only [World.size_alloc]; omega)) hb.size
      have b1_0c0 : w2.cell? ⟨w1.heap.size, 0, none⟩ = some (.int .i64 (0)) := (hb.cell (p := ⟨w1.heap.size, 0, none⟩) (by first | assumption | (go_size; done) | (simp; omega) | (simp only [World.size_alloc]; omega))).trans (by first | assumption | (go_cell; done) | (go_simp; done) | simp [*]); have b1_0c1 : w2.cell? ⟨w1.heap.size, 1, none⟩ = some (.int .i64 (0)) := (hb.cell (p := ⟨w1.heap.size, 1, none⟩) (by first | assumption | (go_size; done) | (simp; omega) | (simp only [World.size_alloc]; omega))).trans (by first | assumption | (go_cell; done) | (go_simp; done) | simp [*]); have b1_0cs : w1.heap.size < w2.heap.size := Nat.lt_of_lt_of_le (by first | assumption | (go_size; done) | (simp; omega) | (simp only [World.size_alloc]; omega)) hb.size
      clear hb hA1 b0_0b0 b0_0b1 b0_0bs
      have hs2 := hA2.size
      go_wp2
      go_returns
      exact ⟨by simp, by go_grown⟩
    case true =>
      have H1 : Hid (∀ w' (hg' : EtOk w'), Calls Tryd.prog 25 #[.agg #[.int .i64 (x), .int .i64 (y)]] w' fun e w2 => e = .returned (.tuple #[.agg #[.int .i64 (-y), .int .i64 (x)], .bool true]) ∧ Below w'.heap.size w' w2) := fun w' hg' => giv (vecTurn_any x y w' hg') (by rw [k]; rfl)
      have H2 : Hid (∀ w', Calls Tryd.prog 33 #[.agg #[.int .i64 (x), .int .i64 (y)]] w' fun e w2 => e = .returned (.tuple #[.agg #[.int .i64 (-y), .int .i64 (x)], .bool true]) ∧ Below w'.heap.size w' w2) := fun w' => giv (specVecTurn_any x y w') (by rw [k]; rfl)
      have k1 := turn_in k
      have k2 := turn_in k1
      have k3 := turn_in k2
      have H3 : Hid (∀ w' (hg' : EtOk w'), Calls Tryd.prog 25 #[.agg #[.int .i64 (-y), .int .i64 (x)]] w' fun e w2 => e = .returned (.tuple #[.agg #[.int .i64 (-x), .int .i64 (-y)], .bool true]) ∧ Below w'.heap.size w' w2) := fun w' hg' => giv (vecTurn_any (-y) x w' hg') (by rw [k1]; rfl)
      have H4 : Hid (∀ w' (hg' : EtOk w'), Calls Tryd.prog 25 #[.agg #[.int .i64 (-x), .int .i64 (-y)]] w' fun e w2 => e = .returned (.tuple #[.agg #[.int .i64 (y), .int .i64 (-x)], .bool true]) ∧ Below w'.heap.size w' w2) := fun w' hg' => giv (vecTurn_any (-x) (-y) w' hg') (by rw [k2, gate_true, gate_true, Int.neg_neg])
      have H5 : Hid (∀ w' (hg' : EtOk w'), Calls Tryd.prog 25 #[.agg #[.int .i64 (y), .int .i64 (-x)]] w' fun e w2 => e = .returned (.tuple #[.agg #[.int .i64 (x), .int .i64 (y)], .bool true]) ∧ Below w'.heap.size w' w2) := fun w' hg' => giv (vecTurn_any y (-x) w' hg') (by rw [show vecB y (-x) = true by rw [Int.neg_neg] at k3; exact k3, gate_true, gate_true, Int.neg_neg])
      have H6 : Hid (∀ w' (hg' : EtOk w'), Calls Tryd.prog 16 #[.agg #[.int .i64 (x), .int .i64 (y)], .int .i64 (-1)] w' fun e w2 => e = .returned (.tuple #[.agg #[.int .i64 (-x), .int .i64 (-y)], .bool true]) ∧ Below w'.heap.size w' w2) := fun w' hg' => giv (vecTimes_any x y (-1) w' hg') (by rw [times_neg k, gate_true, gate_true, show x * -1 = -x by omega, show y * -1 = -y by omega])
      generalize -x = p at *
      generalize -y = q at *
      clear k k1 k2 k3
      go_wp2_with fail
      refine Calls.mono (H1.out _ (HG.out.below (by have := hA0.size; go_grown))) ?_
      rintro e w1 ⟨rfl, hb⟩
      have hA1 : Below w.heap.size w w1 := belowTo (by have := hA0.size; go_grown) hb
      have b0_0b0 : w1.cell? ⟨w0.heap.size, 0, none⟩ = some (.int .i64 (x)) := (hb.cell (p := ⟨w0.heap.size, 0, none⟩) (by first | assumption | (go_size; done) | (simp; omega) | (simp only [World.size_alloc]; omega))).trans (by first | assumption | (go_cell; done) | (go_simp; done) | simp [*]); have b0_0b1 : w1.cell? ⟨w0.heap.size, 1, none⟩ = some (.int .i64 (y)) := (hb.cell (p := ⟨w0.heap.size, 1, none⟩) (by first | assumption | (go_size; done) | (simp; omega) | (simp only [World.size_alloc]; omega))).trans (by first | assumption | (go_cell; done) | (go_simp; done) | simp [*]); have b0_0bs : w0.heap.size < w1.heap.size := Nat.lt_of_lt_of_le (by first | assumption | (go_size; done) | (simp; omega) | (simp only [World.size_alloc]; omega)) hb.size
      clear hb hA0 
      go_wp2_with fail
      refine Calls.mono (H2.out _) ?_
      rintro e w2 ⟨rfl, hb⟩
      have hA2 : Below w.heap.size w w2 := belowTo (by have := hA1.size; go_grown) hb
      have b0_0c0 : w2.cell? ⟨w0.heap.size, 0, none⟩ = some (.int .i64 (x)) := (hb.cell (p := ⟨w0.heap.size, 0, none⟩) (by first | assumption | (go_size; done) | (simp; omega) | (simp only [World.size_alloc]; omega))).trans (by first | assumption | (go_cell; done) | (go_simp; done) | simp [*]); have b0_0c1 : w2.cell? ⟨w0.heap.size, 1, none⟩ = some (.int .i64 (y)) := (hb.cell (p := ⟨w0.heap.size, 1, none⟩) (by first | assumption | (go_size; done) | (simp; omega) | (simp only [World.size_alloc]; omega))).trans (by first | assumption | (go_cell; done) | (go_simp; done) | simp [*]); have b0_0cs : w0.heap.size < w2.heap.size := Nat.lt_of_lt_of_le (by first | assumption | (go_size; done) | (simp; omega) | (simp only [World.size_alloc]; omega)) hb.size
      have b1_0c0 : w2.cell? ⟨w1.heap.size, 0, none⟩ = some (.int .i64 (q)) := (hb.cell (p := ⟨w1.heap.size, 0, none⟩) (by first | assumption | (go_size; done) | (simp; omega) | (simp only [World.size_alloc]; omega))).trans (by first | assumption | (go_cell; done) | (go_simp; done) | simp [*]); have b1_0c1 : w2.cell? ⟨w1.heap.size, 1, none⟩ = some (.int .i64 (x)) := (hb.cell (p := ⟨w1.heap.size, 1, none⟩) (by first | assumption | (go_size; done) | (simp; omega) | (simp only [World.size_alloc]; omega))).trans (by first | assumption | (go_cell; done) | (go_simp; done) | simp [*]); have b1_0cs : w1.heap.size < w2.heap.size := Nat.lt_of_lt_of_le (by first | assumption | (go_size; done) | (simp; omega) | (simp only [World.size_alloc]; omega)) hb.size
      clear hb hA1 b0_0b0 b0_0b1 b0_0bs
      go_wp2_with fail
      refine Calls.mono (H3.out _ (HG.out.below (by have := hA2.size; go_grown))) ?_
      rintro e w3 ⟨rfl, hb⟩
      have hA3 : Below w.heap.size w w3 := belowTo (by have := hA2.size; go_grown) hb
      have b0_0d0 : w3.cell? ⟨w0.heap.size, 0, none⟩ = some (.int .i64 (x)) := (hb.cell (p := ⟨w0.heap.size, 0, none⟩) (by first | assumption | (go_size; done) | (simp; omega) | (simp only [World.size_alloc]; omega))).trans (by first | assumption | (go_cell; done) | (go_simp; done) | simp [*]); have b0_0d1 : w3.cell? ⟨w0.heap.size, 1, none⟩ = some (.int .i64 (y)) := (hb.cell (p := ⟨w0.heap.size, 1, none⟩) (by first | assumption | (go_size; done) | (simp; omega) | (simp only [World.size_alloc]; omega))).trans (by first | assumption | (go_cell; done) | (go_simp; done) | simp [*]); have b0_0ds : w0.heap.size < w3.heap.size := Nat.lt_of_lt_of_le (by first | assumption | (go_size; done) | (simp; omega) | (simp only [World.size_alloc]; omega)) hb.size
      clear hb hA2 b0_0c0 b0_0c1 b0_0cs b1_0c0 b1_0c1 b1_0cs
      go_wp2_with fail
      refine Calls.mono (H4.out _ (HG.out.below (by have := hA3.size; go_grown))) ?_
      rintro e w4 ⟨rfl, hb⟩
      have hA4 : Below w.heap.size w w4 := belowTo (by have := hA3.size; go_grown) hb
      have b0_0e0 : w4.cell? ⟨w0.heap.size, 0, none⟩ = some (.int .i64 (x)) := (hb.cell (p := ⟨w0.heap.size, 0, none⟩) (by first | assumption | (go_size; done) | (simp; omega) | (simp only [World.size_alloc]; omega))).trans (by first | assumption | (go_cell; done) | (go_simp; done) | simp [*]); have b0_0e1 : w4.cell? ⟨w0.heap.size, 1, none⟩ = some (.int .i64 (y)) := (hb.cell (p := ⟨w0.heap.size, 1, none⟩) (by first | assumption | (go_size; done) | (simp; omega) | (simp only [World.size_alloc]; omega))).trans (by first | assumption | (go_cell; done) | (go_simp; done) | simp [*]); have b0_0es : w0.heap.size < w4.heap.size := Nat.lt_of_lt_of_le (by first | assumption | (go_size; done) | (simp; omega) | (simp only [World.size_alloc]; omega)) hb.size
      have b3_0e0 : w4.cell? ⟨w3.heap.size, 0, none⟩ = some (.int .i64 (p)) := (hb.cell (p := ⟨w3.heap.size, 0, none⟩) (by first | assumption | (go_size; done) | (simp; omega) | (simp only [World.size_alloc]; omega))).trans (by first | assumption | (go_cell; done) | (go_simp; done) | simp [*]); have b3_0e1 : w4.cell? ⟨w3.heap.size, 1, none⟩ = some (.int .i64 (q)) := (hb.cell (p := ⟨w3.heap.size, 1, none⟩) (by first | assumption | (go_size; done) | (simp; omega) | (simp only [World.size_alloc]; omega))).trans (by first | assumption | (go_cell; done) | (go_simp; done) | simp [*]); have b3_0es : w3.heap.size < w4.heap.size := Nat.lt_of_lt_of_le (by first | assumption | (go_size; done) | (simp; omega) | (simp only [World.size_alloc]; omega)) hb.size
      clear hb hA3 b0_0d0 b0_0d1 b0_0ds
      go_wp2_with fail
      refine Calls.mono (H5.out _ (HG.out.below (by have := hA4.size; go_grown))) ?_
      rintro e w5 ⟨rfl, hb⟩
      have hA5 : Below w.heap.size w w5 := belowTo (by have := hA4.size; go_grown) hb
      have b0_0f0 : w5.cell? ⟨w0.heap.size, 0, none⟩ = some (.int .i64 (x)) := (hb.cell (p := ⟨w0.heap.size, 0, none⟩) (by first | assumption | (go_size; done) | (simp; omega) | (simp only [World.size_alloc]; omega))).trans (by first | assumption | (go_cell; done) | (go_simp; done) | simp [*]); have b0_0f1 : w5.cell? ⟨w0.heap.size, 1, none⟩ = some (.int .i64 (y)) := (hb.cell (p := ⟨w0.heap.size, 1, none⟩) (by first | assumption | (go_size; done) | (simp; omega) | (simp only [World.size_alloc]; omega))).trans (by first | assumption | (go_cell; done) | (go_simp; done) | simp [*]); have b0_0fs : w0.heap.size < w5.heap.size := Nat.lt_of_lt_of_le (by first | assumption | (go_size; done) | (simp; omega) | (simp only [World.size_alloc]; omega)) hb.size
      have b3_0f0 : w5.cell? ⟨w3.heap.size, 0, none⟩ = some (.int .i64 (p)) := (hb.cell (p := ⟨w3.heap.size, 0, none⟩) (by first | assumption | (go_size; done) | (simp; omega) | (simp only [World.size_alloc]; omega))).trans (by first | assumption | (go_cell; done) | (go_simp; done) | simp [*]); have b3_0f1 : w5.cell? ⟨w3.heap.size, 1, none⟩ = some (.int .i64 (q)) := (hb.cell (p := ⟨w3.heap.size, 1, none⟩) (by first | assumption | (go_size; done) | (simp; omega) | (simp only [World.size_alloc]; omega))).trans (by first | assumption | (go_cell; done) | (go_simp; done) | simp [*]); have b3_0fs : w3.heap.size < w5.heap.size := Nat.lt_of_lt_of_le (by first | assumption | (go_size; done) | (simp; omega) | (simp only [World.size_alloc]; omega)) hb.size
      clear hb hA4 b0_0e0 b0_0e1 b0_0es b3_0e0 b3_0e1 b3_0es
      go_wp2_with fail
      refine Calls.mono (H6.out _ (HG.out.below (by have := hA5.size; go_grown))) ?_
      rintro e w6 ⟨rfl, hb⟩
      have hA6 : Below w.heap.size w w6 := belowTo (by have := hA5.size; go_grown) hb
      have b0_0g0 : w6.cell? ⟨w0.heap.size, 0, none⟩ = some (.int .i64 (x)) := (hb.cell (p := ⟨w0.heap.size, 0, none⟩) (by first | assumption | (go_size; done) | (simp; omega) | (simp only [World.size_alloc]; omega))).trans (by first | assumption | (go_cell; done) | (go_simp; done) | simp [*]); have b0_0g1 : w6.cell? ⟨w0.heap.size, 1, none⟩ = some (.int .i64 (y)) := (hb.cell (p := ⟨w0.heap.size, 1, none⟩) (by first | assumption | (go_size; done) | (simp; omega) | (simp only [World.size_alloc]; omega))).trans (by first | assumption | (go_cell; done) | (go_simp; done) | simp [*]); have b0_0gs : w0.heap.size < w6.heap.size := Nat.lt_of_lt_of_le (by first | assumption | (go_size; done) | (simp; omega) | (simp only [World.size_alloc]; omega)) hb.size
      have b3_0g0 : w6.cell? ⟨w3.heap.size, 0, none⟩ = some (.int .i64 (p)) := (hb.cell (p := ⟨w3.heap.size, 0, none⟩) (by first | assumption | (go_size; done) | (simp; omega) | (simp only [World.size_alloc]; omega))).trans (by first | assumption | (go_cell; done) | (go_simp; done) | simp [*]); have b3_0g1 : w6.cell? ⟨w3.heap.size, 1, none⟩ = some (.int .i64 (q)) := (hb.cell (p := ⟨w3.heap.size, 1, none⟩) (by first | assumption | (go_size; done) | (simp; omega) | (simp only [World.size_alloc]; omega))).trans (by first | assumption | (go_cell; done) | (go_simp; done) | simp [*]); have b3_0gs : w3.heap.size < w6.heap.size := Nat.lt_of_lt_of_le (by first | assumption | (go_size; done) | (simp; omega) | (simp only [World.size_alloc]; omega)) hb.size
      have b5_0g0 : w6.cell? ⟨w5.heap.size, 0, none⟩ = some (.int .i64 (x)) := (hb.cell (p := ⟨w5.heap.size, 0, none⟩) (by first | assumption | (go_size; done) | (simp; omega) | (simp only [World.size_alloc]; omega))).trans (by first | assumption | (go_cell; done) | (go_simp; done) | simp [*]); have b5_0g1 : w6.cell? ⟨w5.heap.size, 1, none⟩ = some (.int .i64 (y)) := (hb.cell (p := ⟨w5.heap.size, 1, none⟩) (by first | assumption | (go_size; done) | (simp; omega) | (simp only [World.size_alloc]; omega))).trans (by first | assumption | (go_cell; done) | (go_simp; done) | simp [*]); have b5_0gs : w5.heap.size < w6.heap.size := Nat.lt_of_lt_of_le (by first | assumption | (go_size; done) | (simp; omega) | (simp only [World.size_alloc]; omega)) hb.size
      clear hb hA5 b0_0f0 b0_0f1 b0_0fs b3_0f0 b3_0f1 b3_0fs
      have hs6 := hA6.size
      go_wp2
      go_returns
      exact ⟨by simp, by go_grown⟩
end Go.Proofs.YtnemmgnipmjpcaaDoor
