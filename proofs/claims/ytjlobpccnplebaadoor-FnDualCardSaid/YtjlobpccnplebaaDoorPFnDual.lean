/- FnDual. -/
import Derived.Test.YtjlobpccnplebaaDoorPc
import Derived.Test.YtjlobpccnplebaaDoorB4
import Derived.Test.YtjlobpccnplebaaDoorCc
namespace Go.Proofs.YtjlobpccnplebaaDoor
open Go.RowKit

set_option maxHeartbeats 8000000 in
theorem fnDual_any (a : Option Addr) (len cap : Nat) (w : World) (h : Bytes w a len cap) (hg : EtOk w) :
    Calls Tryd.prog 9 #[.slice a len cap] w fun e w' => e = .returned (.bool true) ∧ Below w.heap.size w w' := by
  by_cases hl : 1048576 < len
  · have hl' : (1048576 : Int) < (len : Int) := by omega
    go_enter Tryd.func9, Tryd.ntmps9
    go_wp2
    go_returns
    exact ⟨rfl, Below.refl _ _⟩
  · have hl' : (len : Int) ≤ 1048576 := by omega
    have HD := Lib.hid (drawConeDual_any w a len cap h)
    have HG := Lib.hid hg
    clear h hg
    go_enter Tryd.func9, Tryd.ntmps9
    go_wp2_with fail
    refine Calls.mono HD.out ?_
    rintro e w0 ⟨x, y, z, u, rfl, hb0⟩
    have hA0 : Below w.heap.size w w0 := hb0
    clear hb0 HD
    cases k : coneB x y z u
    case false =>
      have H1 : Hid (∀ w' (hg' : EtOk w'), Calls Tryd.prog 20 #[.agg #[.int .i64 (x), .int .i64 (y), .int .i64 (z), .int .i64 (u)]] w' fun e w2 => e = .returned (.tuple #[.agg #[.int .i64 (0), .int .i64 (0), .int .i64 (0), .int .i64 (0)], .bool false]) ∧ Below w'.heap.size w' w2) := fun w' hg' => giv (coneDual_any x y z u w' hg') (by rw [k]; rfl)
      have H2 : Hid (∀ w', Calls Tryd.prog 39 #[.agg #[.int .i64 (x), .int .i64 (y), .int .i64 (z), .int .i64 (u)]] w' fun e w2 => e = .returned (.tuple #[.agg #[.int .i64 (0), .int .i64 (0), .int .i64 (0), .int .i64 (0)], .bool false]) ∧ Below w'.heap.size w' w2) := fun w' => giv (specConeDual_any x y z u w') (by rw [k]; rfl)
      go_wp2_with fail
      refine Calls.mono (H1.out _ (HG.out.below (by have := hA0.size; go_grown))) ?_
      rintro e w1 ⟨rfl, hb⟩
      have hA1 : Below w.heap.size w w1 := belowTo (by have := hA0.size; go_grown) hb
      have b0_0b0 : w1.cell? ⟨w0.heap.size, 0, none⟩ = some (.int .i64 (x)) := (hb.cell (p := ⟨w0.heap.size, 0, none⟩) (by first | assumption | (go_size; done) | (simp; omega) | (simp only [World.size_alloc]; omega))).trans (by first | assumption | (go_cell; done) | (go_simp; done) | simp [*]); have b0_0b1 : w1.cell? ⟨w0.heap.size, 1, none⟩ = some (.int .i64 (y)) := (hb.cell (p := ⟨w0.heap.size, 1, none⟩) (by first | assumption | (go_size; done) | (simp; omega) | (simp only [World.size_alloc]; omega))).trans (by first | assumption | (go_cell; done) | (go_simp; done) | simp [*]); have b0_0b2 : w1.cell? ⟨w0.heap.size, 2, none⟩ = some (.int .i64 (z)) := (hb.cell (p := ⟨w0.heap.size, 2, none⟩) (by first | assumption | (go_size; done) | (simp; omega) | (simp only [World.size_alloc]; omega))).trans (by first | assumption | (go_cell; done) | (go_simp; done) | simp [*]); have b0_0b3 : w1.cell? ⟨w0.heap.size, 3, none⟩ = some (.int .i64 (u)) := (hb.cell (p := ⟨w0.heap.size, 3, none⟩) (by first | assumption | (go_size; done) | (simp; omega) | (simp only [World.size_alloc]; omega))).trans (by first | assumption | (go_cell; done) | (go_simp; done) | simp [*]); have b0_0bs : w0.heap.size < w1.heap.size := Nat.lt_of_lt_of_le (by first | assumption | (go_size; done) | (simp; omega) | (simp only [World.size_alloc]; omega)) hb.size
      clear hb hA0 
      go_wp2_with fail
      refine Calls.mono (H2.out _) ?_
      rintro e w2 ⟨rfl, hb⟩
      have hA2 : Below w.heap.size w w2 := belowTo (by have := hA1.size; go_grown) hb
      have b0_0c0 : w2.cell? ⟨w0.heap.size, 0, none⟩ = some (.int .i64 (x)) := (hb.cell (p := ⟨w0.heap.size, 0, none⟩) (by first | assumption | (go_size; done) | (simp; omega) | (simp only [World.size_alloc]; omega))).trans (by first | assumption | (go_cell; done) | (go_simp; done) | simp [*]); have b0_0c1 : w2.cell? ⟨w0.heap.size, 1, none⟩ = some (.int .i64 (y)) := (hb.cell (p := ⟨w0.heap.size, 1, none⟩) (by first | assumption | (go_size; done) | (simp; omega) | (simp only [World.size_alloc]; omega))).trans (by first | assumption | (go_cell; done) | (go_simp; done) | simp [*]); have b0_0c2 : w2.cell? ⟨w0.heap.size, 2, none⟩ = some (.int .i64 (z)) := (hb.cell (p := ⟨w0.heap.size, 2, none⟩) (by first | assumption | (go_size; done) | (simp; omega) | (simp only [World.size_alloc]; omega))).trans (by first | assumption | (go_cell; done) | (go_simp; done) | simp [*]); have b0_0c3 : w2.cell? ⟨w0.heap.size, 3, none⟩ = some (.int .i64 (u)) := (hb.cell (p := ⟨w0.heap.size, 3, none⟩) (by first | assumption | (go_size; done) | (simp; omega) | (simp only [World.size_alloc]; omega))).trans (by first | assumption | (go_cell; done) | (go_simp; done) | simp [*]); have b0_0cs : w0.heap.size < w2.heap.size := Nat.lt_of_lt_of_le (by first | assumption | (go_size; done) | (simp; omega) | (simp only [World.size_alloc]; omega)) hb.size
      have b1_0c0 : w2.cell? ⟨w1.heap.size, 0, none⟩ = some (.int .i64 (0)) := (hb.cell (p := ⟨w1.heap.size, 0, none⟩) (by first | assumption | (go_size; done) | (simp; omega) | (simp only [World.size_alloc]; omega))).trans (by first | assumption | (go_cell; done) | (go_simp; done) | simp [*]); have b1_0c1 : w2.cell? ⟨w1.heap.size, 1, none⟩ = some (.int .i64 (0)) := (hb.cell (p := ⟨w1.heap.size, 1, none⟩) (by first | assumption | (go_size; done) | (simp; omega) | (simp only [World.size_alloc]; omega))).trans (by first | assumption | (go_cell; done) | (go_simp; done) | simp [*]); have b1_0c2 : w2.cell? ⟨w1.heap.size, 2, none⟩ = some (.int .i64 (0)) := (hb.cell (p := ⟨w1.heap.size, 2, none⟩) (by first | assumption | (go_size; done) | (simp; omega) | (simp only [World.size_alloc]; omega))).trans (by first | assumption | (go_cell; done) | (go_simp; done) | simp [*]); have b1_0c3 : w2.cell? ⟨w1.heap.size, 3, none⟩ = some (.int .i64 (0)) := (hb.cell (p := ⟨w1.heap.size, 3, none⟩) (by first | assumption | (go_size; done) | (simp; omega) | (simp only [World.size_alloc]; omega))).trans (by first | assumption | (go_cell; done) | (go_simp; done) | simp [*]); have b1_0cs : w1.heap.size < w2.heap.size := Nat.lt_of_lt_of_le (by first | assumption | (go_size; done) | (simp; omega) | (simp only [World.size_alloc]; omega)) hb.size
      clear hb hA1 b0_0b0 b0_0b1 b0_0b2 b0_0b3 b0_0bs
      have hs2 := hA2.size
      go_wp2
      go_returns
      exact ⟨by simp, by go_grown⟩
    case true =>
      have H1 : Hid (∀ w' (hg' : EtOk w'), Calls Tryd.prog 20 #[.agg #[.int .i64 (x), .int .i64 (y), .int .i64 (z), .int .i64 (u)]] w' fun e w2 => e = .returned (.tuple #[.agg #[.int .i64 (u), .int .i64 (-z), .int .i64 (-y), .int .i64 (x)], .bool true]) ∧ Below w'.heap.size w' w2) := fun w' hg' => giv (coneDual_any x y z u w' hg') (by rw [k]; rfl)
      have H2 : Hid (∀ w', Calls Tryd.prog 39 #[.agg #[.int .i64 (x), .int .i64 (y), .int .i64 (z), .int .i64 (u)]] w' fun e w2 => e = .returned (.tuple #[.agg #[.int .i64 (u), .int .i64 (-z), .int .i64 (-y), .int .i64 (x)], .bool true]) ∧ Below w'.heap.size w' w2) := fun w' => giv (specConeDual_any x y z u w') (by rw [k]; rfl)
      have kd := dual_in k
      have H3 : Hid (∀ w' (hg' : EtOk w'), Calls Tryd.prog 20 #[.agg #[.int .i64 (u), .int .i64 (-z), .int .i64 (-y), .int .i64 (x)]] w' fun e w2 => e = .returned (.tuple #[.agg #[.int .i64 (x), .int .i64 (y), .int .i64 (z), .int .i64 (u)], .bool true]) ∧ Below w'.heap.size w' w2) := fun w' hg' => giv (coneDual_any u (-z) (-y) x w' hg') (by rw [kd, gate_true, gate_true, gate_true, gate_true, Int.neg_neg, Int.neg_neg])
      generalize -z = p at *
      generalize -y = q at *
      clear k kd
      go_wp2_with fail
      refine Calls.mono (H1.out _ (HG.out.below (by have := hA0.size; go_grown))) ?_
      rintro e w1 ⟨rfl, hb⟩
      have hA1 : Below w.heap.size w w1 := belowTo (by have := hA0.size; go_grown) hb
      have b0_0b0 : w1.cell? ⟨w0.heap.size, 0, none⟩ = some (.int .i64 (x)) := (hb.cell (p := ⟨w0.heap.size, 0, none⟩) (by first | assumption | (go_size; done) | (simp; omega) | (simp only [World.size_alloc]; omega))).trans (by first | assumption | (go_cell; done) | (go_simp; done) | simp [*]); have b0_0b1 : w1.cell? ⟨w0.heap.size, 1, none⟩ = some (.int .i64 (y)) := (hb.cell (p := ⟨w0.heap.size, 1, none⟩) (by first | assumption | (go_size; done) | (simp; omega) | (simp only [World.size_alloc]; omega))).trans (by first | assumption | (go_cell; done) | (go_simp; done) | simp [*]); have b0_0b2 : w1.cell? ⟨w0.heap.size, 2, none⟩ = some (.int .i64 (z)) := (hb.cell (p := ⟨w0.heap.size, 2, none⟩) (by first | assumption | (go_size; done) | (simp; omega) | (simp only [World.size_alloc]; omega))).trans (by first | assumption | (go_cell; done) | (go_simp; done) | simp [*]); have b0_0b3 : w1.cell? ⟨w0.heap.size, 3, none⟩ = some (.int .i64 (u)) := (hb.cell (p := ⟨w0.heap.size, 3, none⟩) (by first | assumption | (go_size; done) | (simp; omega) | (simp only [World.size_alloc]; omega))).trans (by first | assumption | (go_cell; done) | (go_simp; done) | simp [*]); have b0_0bs : w0.heap.size < w1.heap.size := Nat.lt_of_lt_of_le (by first | assumption | (go_size; done) | (simp; omega) | (simp only [World.size_alloc]; omega)) hb.size
      clear hb hA0 
      go_wp2_with fail
      refine Calls.mono (H2.out _) ?_
      rintro e w2 ⟨rfl, hb⟩
      have hA2 : Below w.heap.size w w2 := belowTo (by have := hA1.size; go_grown) hb
      have b0_0c0 : w2.cell? ⟨w0.heap.size, 0, none⟩ = some (.int .i64 (x)) := (hb.cell (p := ⟨w0.heap.size, 0, none⟩) (by first | assumption | (go_size; done) | (simp; omega) | (simp only [World.size_alloc]; omega))).trans (by first | assumption | (go_cell; done) | (go_simp; done) | simp [*]); have b0_0c1 : w2.cell? ⟨w0.heap.size, 1, none⟩ = some (.int .i64 (y)) := (hb.cell (p := ⟨w0.heap.size, 1, none⟩) (by first | assumption | (go_size; done) | (simp; omega) | (simp only [World.size_alloc]; omega))).trans (by first | assumption | (go_cell; done) | (go_simp; done) | simp [*]); have b0_0c2 : w2.cell? ⟨w0.heap.size, 2, none⟩ = some (.int .i64 (z)) := (hb.cell (p := ⟨w0.heap.size, 2, none⟩) (by first | assumption | (go_size; done) | (simp; omega) | (simp only [World.size_alloc]; omega))).trans (by first | assumption | (go_cell; done) | (go_simp; done) | simp [*]); have b0_0c3 : w2.cell? ⟨w0.heap.size, 3, none⟩ = some (.int .i64 (u)) := (hb.cell (p := ⟨w0.heap.size, 3, none⟩) (by first | assumption | (go_size; done) | (simp; omega) | (simp only [World.size_alloc]; omega))).trans (by first | assumption | (go_cell; done) | (go_simp; done) | simp [*]); have b0_0cs : w0.heap.size < w2.heap.size := Nat.lt_of_lt_of_le (by first | assumption | (go_size; done) | (simp; omega) | (simp only [World.size_alloc]; omega)) hb.size
      have b1_0c0 : w2.cell? ⟨w1.heap.size, 0, none⟩ = some (.int .i64 (u)) := (hb.cell (p := ⟨w1.heap.size, 0, none⟩) (by first | assumption | (go_size; done) | (simp; omega) | (simp only [World.size_alloc]; omega))).trans (by first | assumption | (go_cell; done) | (go_simp; done) | simp [*]); have b1_0c1 : w2.cell? ⟨w1.heap.size, 1, none⟩ = some (.int .i64 (p)) := (hb.cell (p := ⟨w1.heap.size, 1, none⟩) (by first | assumption | (go_size; done) | (simp; omega) | (simp only [World.size_alloc]; omega))).trans (by first | assumption | (go_cell; done) | (go_simp; done) | simp [*]); have b1_0c2 : w2.cell? ⟨w1.heap.size, 2, none⟩ = some (.int .i64 (q)) := (hb.cell (p := ⟨w1.heap.size, 2, none⟩) (by first | assumption | (go_size; done) | (simp; omega) | (simp only [World.size_alloc]; omega))).trans (by first | assumption | (go_cell; done) | (go_simp; done) | simp [*]); have b1_0c3 : w2.cell? ⟨w1.heap.size, 3, none⟩ = some (.int .i64 (x)) := (hb.cell (p := ⟨w1.heap.size, 3, none⟩) (by first | assumption | (go_size; done) | (simp; omega) | (simp only [World.size_alloc]; omega))).trans (by first | assumption | (go_cell; done) | (go_simp; done) | simp [*]); have b1_0cs : w1.heap.size < w2.heap.size := Nat.lt_of_lt_of_le (by first | assumption | (go_size; done) | (simp; omega) | (simp only [World.size_alloc]; omega)) hb.size
      clear hb hA1 b0_0b0 b0_0b1 b0_0b2 b0_0b3 b0_0bs
      go_wp2_with fail
      refine Calls.mono (H3.out _ (HG.out.below (by have := hA2.size; go_grown))) ?_
      rintro e w3 ⟨rfl, hb⟩
      have hA3 : Below w.heap.size w w3 := belowTo (by have := hA2.size; go_grown) hb
      have b0_0d0 : w3.cell? ⟨w0.heap.size, 0, none⟩ = some (.int .i64 (x)) := (hb.cell (p := ⟨w0.heap.size, 0, none⟩) (by first | assumption | (go_size; done) | (simp; omega) | (simp only [World.size_alloc]; omega))).trans (by first | assumption | (go_cell; done) | (go_simp; done) | simp [*]); have b0_0d1 : w3.cell? ⟨w0.heap.size, 1, none⟩ = some (.int .i64 (y)) := (hb.cell (p := ⟨w0.heap.size, 1, none⟩) (by first | assumption | (go_size; done) | (simp; omega) | (simp only [World.size_alloc]; omega))).trans (by first | assumption | (go_cell; done) | (go_simp; done) | simp [*]); have b0_0d2 : w3.cell? ⟨w0.heap.size, 2, none⟩ = some (.int .i64 (z)) := (hb.cell (p := ⟨w0.heap.size, 2, none⟩) (by first | assumption | (go_size; done) | (simp; omega) | (simp only [World.size_alloc]; omega))).trans (by first | assumption | (go_cell; done) | (go_simp; done) | simp [*]); have b0_0d3 : w3.cell? ⟨w0.heap.size, 3, none⟩ = some (.int .i64 (u)) := (hb.cell (p := ⟨w0.heap.size, 3, none⟩) (by first | assumption | (go_size; done) | (simp; omega) | (simp only [World.size_alloc]; omega))).trans (by first | assumption | (go_cell; done) | (go_simp; done) | simp [*]); have b0_0ds : w0.heap.size < w3.heap.size := Nat.lt_of_lt_of_le (by first | assumption | (go_size; done) | (simp; omega) | (simp only [World.size_alloc]; omega)) hb.size
      have b1_0d0 : w3.cell? ⟨w1.heap.size, 0, none⟩ = some (.int .i64 (u)) := (hb.cell (p := ⟨w1.heap.size, 0, none⟩) (by first | assumption | (go_size; done) | (simp; omega) | (simp only [World.size_alloc]; omega))).trans (by first | assumption | (go_cell; done) | (go_simp; done) | simp [*]); have b1_0d1 : w3.cell? ⟨w1.heap.size, 1, none⟩ = some (.int .i64 (p)) := (hb.cell (p := ⟨w1.heap.size, 1, none⟩) (by first | assumption | (go_size; done) | (simp; omega) | (simp only [World.size_alloc]; omega))).trans (by first | assumption | (go_cell; done) | (go_simp; done) | simp [*]); have b1_0d2 : w3.cell? ⟨w1.heap.size, 2, none⟩ = some (.int .i64 (q)) := (hb.cell (p := ⟨w1.heap.size, 2, none⟩) (by first | assumption | (go_size; done) | (simp; omega) | (simp only [World.size_alloc]; omega))).trans (by first | assumption | (go_cell; done) | (go_simp; done) | simp [*]); have b1_0d3 : w3.cell? ⟨w1.heap.size, 3, none⟩ = some (.int .i64 (x)) := (hb.cell (p := ⟨w1.heap.size, 3, none⟩) (by first | assumption | (go_size; done) | (simp; omega) | (simp only [World.size_alloc]; omega))).trans (by first | assumption | (go_cell; done) | (go_simp; done) | simp [*]); have b1_0ds : w1.heap.size < w3.heap.size := Nat.lt_of_lt_of_le (by first | assumption | (go_size; done) | (simp; omega) | (simp only [World.size_alloc]; omega)) hb.size
      clear hb hA2 b0_0c0 b0_0c1 b0_0c2 b0_0c3 b0_0cs b1_0c0 b1_0c1 b1_0c2 b1_0c3 b1_0cs
      have hs3 := hA3.size
      go_wp2
      go_returns
      exact ⟨by simp, by go_grown⟩
end Go.Proofs.YtjlobpccnplebaaDoor
