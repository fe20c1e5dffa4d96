/- FnKind. -/
import Derived.Test.YtjlobpccnplebaaDoorPc
import Derived.Test.YtjlobpccnplebaaDoorB4
import Derived.Test.YtjlobpccnplebaaDoorCh
namespace Go.Proofs.YtjlobpccnplebaaDoor
open Go.RowKit

theorem kind_mul_bd {a b : Int} (ha : -2000000 ≤ a ∧ a ≤ 2000000) (hb : -2000000 ≤ b ∧ b ≤ 2000000) : -4000000000000 ≤ a * b ∧ a * b ≤ 4000000000000 := by
  have h1 : (a * b).natAbs ≤ 2000000 * 2000000 := by
    rw [Int.natAbs_mul]
    exact Nat.mul_le_mul (by omega) (by omega)
  omega
set_option maxHeartbeats 8000000 in
theorem fnKind_any (a : Option Addr) (len cap : Nat) (w : World) (h : Bytes w a len cap) (hg : EtOk w) :
    Calls Tryd.prog 6 #[.slice a len cap] w fun e w' => e = .returned (.bool true) ∧ Below w.heap.size w w' := by
  by_cases hl : 1048576 < len
  · have hl' : (1048576 : Int) < (len : Int) := by omega
    go_enter Tryd.func6, Tryd.ntmps6
    go_wp2
    go_returns
    exact ⟨rfl, Below.refl _ _⟩
  · have hl' : (len : Int) ≤ 1048576 := by omega
    have HD := Lib.hid (drawConeKind_any w a len cap h)
    have HG := Lib.hid hg
    clear h hg
    go_enter Tryd.func6, Tryd.ntmps6
    go_wp2_with fail
    refine Calls.mono HD.out ?_
    rintro e w0 ⟨x, y, z, u, rfl, hb0⟩
    have hA0 : Below w.heap.size w w0 := hb0
    clear hb0 HD
    cases k : coneB x y z u
    case false =>
      have H1 : Hid (∀ w' (hg' : EtOk w'), Calls Tryd.prog 25 #[.agg #[.int .i64 (x), .int .i64 (y), .int .i64 (z), .int .i64 (u)]] w' fun e w2 => e = .returned (.tuple #[.int .i64 (0), .bool false]) ∧ Below w'.heap.size w' w2) := fun w' hg' => giv (coneKind_any x y z u w' hg') (by rw [k]; rfl)
      have H2 : Hid (∀ w', Calls Tryd.prog 26 #[.agg #[.int .i64 (x), .int .i64 (y), .int .i64 (z), .int .i64 (u)]] w' fun e w2 => e = .returned (.tuple #[.int .i64 (0), .bool false]) ∧ Below w'.heap.size w' w2) := fun w' => giv (specConeKind_any x y z u w') (by rw [k]; rfl)
      go_wp2_with fail
      refine Calls.mono (H1.out _ (HG.out.below (by have := hA0.size; go_grown))) ?_
      rintro e w1 ⟨rfl, hb⟩
      have hA1 : Below w.heap.size w w1 := belowTo (by have := hA0.size; go_grown) hb
      have b0_0b0 : w1.cell? ⟨w0.heap.size, 0, none⟩ = some (.int .i64 (x)) := (hb.cell (p := ⟨w0.heap.size, 0, none⟩) (by first | assumption | (go_size; done) | (simp; omega) | (simp only [World.size_alloc]; omega))).trans (by first | assumption | (go_cell; done) | (go_simp; done) | simp [*]); have b0_0b1 : w1.cell? ⟨w0.heap.size, 1, none⟩ = some (.int .i64 (y)) := (hb.cell (p := ⟨w0.heap.size, 1, none⟩) (by first | assumption | (go_size; done) | (simp; omega) | (simp only [World.size_alloc]; omega))).trans (by first | assumption | (go_cell; done) | (go_simp; done) | simp [*]); have b0_0b2 : w1.cell? ⟨w0.heap.size, 2, none⟩ = some (.int .i64 (z)) := (hb.cell (p := ⟨w0.heap.size, 2, none⟩) (by first | assumption | (go_size; done) | (simp; omega) | (simp only [World.size_alloc]; omega))).trans (by first | assumption | (go_cell; done) | (go_simp; done) | simp [*]); have b0_0b3 : w1.cell? ⟨w0.heap.size, 3, none⟩ = some (.int .i64 (u)) := (hb.cell (p := ⟨w0.heap.size, 3, none⟩) (by first | assumption | (go_size; done) | (simp; omega) | (simp only [World.size_alloc]; omega))).trans (by first | assumption | (go_cell; done) | (go_simp; done) | simp [*]); have b0_0bs : w0.heap.size < w1.heap.size := Nat.lt_of_lt_of_le (by first | assumption | (go_size; done) | (simp; omega) | (simp only [World.size_alloc]; omega)) hb.size
      clear hb hA0 
      go_wp2_with fail
      refine Calls.mono (H2.out _) ?_
      rintro e w2 ⟨rfl, hb⟩
      have hA2 : Below w.heap.size w w2 := belowTo (by have := hA1.size; go_grown) hb
      have b0_0c0 : w2.cell? ⟨w0.heap.size, 0, none⟩ = some (.int .i64 (x)) := (hb.cell (p := ⟨w0.heap.size, 0, none⟩) (by first | assumption | (go_size; done) | (simp; omega) | (simp only [World.size_alloc]; omega))).trans (by first | assumption | (go_cell; done) | (go_simp; done) | simp [*]); have b0_0c1 : w2.cell? ⟨w0.heap.size, 1, none⟩ = some (.int .i64 (y)) := (hb.cell (p := ⟨w0.heap.size, 1, none⟩) (by first | assumption | (go_size; done) | (simp; omega) | (simp only [World.size_alloc]; omega))).trans (by first | assumption | (go_cell; done) | (go_simp; done) | simp [*]); have b0_0c2 : w2.cell? ⟨w0.heap.size, 2, none⟩ = some (.int .i64 (z)) := (hb.cell (p := ⟨w0.heap.size, 2, none⟩) (by first | assumption | (go_size; done) | (simp; omega) | (simp only [World.size_alloc]; omega))).trans (by first | assumption | (go_cell; done) | (go_simp; done) | simp [*]); have b0_0c3 : w2.cell? ⟨w0.heap.size, 3, none⟩ = some (.int .i64 (u)) := (hb.cell (p := ⟨w0.heap.size, 3, none⟩) (by first | assumption | (go_size; done) | (simp; omega) | (simp only [World.size_alloc]; omega))).trans (by first | assumption | (go_cell; done) | (go_simp; done) | simp [*]); have b0_0cs : w0.heap.size < w2.heap.size := Nat.lt_of_lt_of_le (by first | assumption | (go_size; done) | (simp; omega) | (simp only [World.size_alloc]; omega)) hb.size
      clear hb hA1 b0_0b0 b0_0b1 b0_0b2 b0_0b3 b0_0bs
      have hs2 := hA2.size
      go_wp2
      go_returns
      exact ⟨by simp, by go_grown⟩
    case true =>
      have H1 : Hid (∀ w' (hg' : EtOk w'), Calls Tryd.prog 25 #[.agg #[.int .i64 (x), .int .i64 (y), .int .i64 (z), .int .i64 (u)]] w' fun e w2 => e = .returned (.tuple #[.int .i64 (kindC x y z u), .bool true]) ∧ Below w'.heap.size w' w2) := fun w' hg' => giv (coneKind_any x y z u w' hg') (by rw [k]; rfl)
      have H2 : Hid (∀ w', Calls Tryd.prog 26 #[.agg #[.int .i64 (x), .int .i64 (y), .int .i64 (z), .int .i64 (u)]] w' fun e w2 => e = .returned (.tuple #[.int .i64 (kindC x y z u), .bool true]) ∧ Below w'.heap.size w' w2) := fun w' => giv (specConeKind_any x y z u w') (by rw [k]; rfl)
      have H3 : Hid (∀ w' (hg' : EtOk w'), Calls Tryd.prog 18 #[.agg #[.int .i64 (x), .int .i64 (y), .int .i64 (z), .int .i64 (u)]] w' fun e w2 => e = .returned (.tuple #[.int .i64 (detZ x y z u), .bool true]) ∧ Below w'.heap.size w' w2) := fun w' hg' => giv (coneIndex_any x y z u w' hg') (by rw [k]; rfl)
      have H4 : Hid (∀ w' (hg' : EtOk w'), Calls Tryd.prog 27 #[.agg #[.int .i64 (x), .int .i64 (y), .int .i64 (z), .int .i64 (u)], .agg #[.int .i64 (0), .int .i64 (1), .int .i64 (1), .int .i64 (0)]] w' fun e w2 => e = .returned (.tuple #[.agg #[.int .i64 (u), .int .i64 (z), .int .i64 (y), .int .i64 (x)], .bool true]) ∧ Below w'.heap.size w' w2) := fun w' hg' => giv (coneMove_any x y z u 0 1 1 0 w' hg') (by obtain ⟨c1, c2, c3, c4⟩ := swap_move x y z u; rw [swap_ok k, c1, c2, c3, c4]; rfl)
      have ks := swap_in k
      have H5 : Hid (∀ w' (hg' : EtOk w'), Calls Tryd.prog 25 #[.agg #[.int .i64 (u), .int .i64 (z), .int .i64 (y), .int .i64 (x)]] w' fun e w2 => e = .returned (.tuple #[.int .i64 (kindC u z y x), .bool true]) ∧ Below w'.heap.size w' w2) := fun w' hg' => giv (coneKind_any u z y x w' hg') (by rw [ks]; rfl)
      have r1 := kindC_rng k
      have r2 := kindC_rng ks
      rw [swap_det] at r2
      have ho := fun h => kind_one k h
      obtain ⟨v1, _, v2, _, _⟩ := cone_in k
      have dd := det_sz v1 v2
      generalize kindC x y z u = q at *
      generalize kindC u z y x = r at *
      generalize detZ x y z u = n at *
      clear k ks v1 v2
      have mb := kind_mul_bd (a := q) (b := r) ⟨by omega, by omega⟩ ⟨by omega, by omega⟩
      have e1 : IntKind.i64.wrap (q * r) = q * r := IntWalk.i64_in _ (by omega)
      have n0 : ¬ n = 0 := by omega
      have nb : (n == 0) = false := by simpa using n0
      have HO := Lib.hid ho
      clear mb ho
      go_wp2_with fail
      refine Calls.mono (H1.out _ (HG.out.below (by have := hA0.size; go_grown))) ?_
      rintro e w1 ⟨rfl, hb⟩
      have hA1 : Below w.heap.size w w1 := belowTo (by have := hA0.size; go_grown) hb
      have b0_0b0 : w1.cell? ⟨w0.heap.size, 0, none⟩ = some (.int .i64 (x)) := (hb.cell (p := ⟨w0.heap.size, 0, none⟩) (by first | assumption | (go_size; done) | (simp; omega) | (simp only [World.size_alloc]; omega))).trans (by first | assumption | (go_cell; done) | (go_simp; done) | simp [*]); have b0_0b1 : w1.cell? ⟨w0.heap.size, 1, none⟩ = some (.int .i64 (y)) := (hb.cell (p := ⟨w0.heap.size, 1, none⟩) (by first | assumption | (go_size; done) | (simp; omega) | (simp only [World.size_alloc]; omega))).trans (by first | assumption | (go_cell; done) | (go_simp; done) | simp [*]); have b0_0b2 : w1.cell? ⟨w0.heap.size, 2, none⟩ = some (.int .i64 (z)) := (hb.cell (p := ⟨w0.heap.size, 2, none⟩) (by first | assumption | (go_size; done) | (simp; omega) | (simp only [World.size_alloc]; omega))).trans (by first | assumption | (go_cell; done) | (go_simp; done) | simp [*]); have b0_0b3 : w1.cell? ⟨w0.heap.size, 3, none⟩ = some (.int .i64 (u)) := (hb.cell (p := ⟨w0.heap.size, 3, none⟩) (by first | assumption | (go_size; done) | (simp; omega) | (simp only [World.size_alloc]; omega))).trans (by first | assumption | (go_cell; done) | (go_simp; done) | simp [*]); have b0_0bs : w0.heap.size < w1.heap.size := Nat.lt_of_lt_of_le (by first | assumption | (go_size; done) | (simp; omega) | (simp only [World.size_alloc]; omega)) hb.size
      clear hb hA0 
      go_wp2_with fail
      refine Calls.mono (H2.out _) ?_
      rintro e w2 ⟨rfl, hb⟩
      have hA2 : Below w.heap.size w w2 := belowTo (by have := hA1.size; go_grown) hb
      have b0_0c0 : w2.cell? ⟨w0.heap.size, 0, none⟩ = some (.int .i64 (x)) := (hb.cell (p := ⟨w0.heap.size, 0, none⟩) (by first | assumption | (go_size; done) | (simp; omega) | (simp only [World.size_alloc]; omega))).trans (by first | assumption | (go_cell; done) | (go_simp; done) | simp [*]); have b0_0c1 : w2.cell? ⟨w0.heap.size, 1, none⟩ = some (.int .i64 (y)) := (hb.cell (p := ⟨w0.heap.size, 1, none⟩) (by first | assumption | (go_size; done) | (simp; omega) | (simp only [World.size_alloc]; omega))).trans (by first | assumption | (go_cell; done) | (go_simp; done) | simp [*]); have b0_0c2 : w2.cell? ⟨w0.heap.size, 2, none⟩ = some (.int .i64 (z)) := (hb.cell (p := ⟨w0.heap.size, 2, none⟩) (by first | assumption | (go_size; done) | (simp; omega) | (simp only [World.size_alloc]; omega))).trans (by first | assumption | (go_cell; done) | (go_simp; done) | simp [*]); have b0_0c3 : w2.cell? ⟨w0.heap.size, 3, none⟩ = some (.int .i64 (u)) := (hb.cell (p := ⟨w0.heap.size, 3, none⟩) (by first | assumption | (go_size; done) | (simp; omega) | (simp only [World.size_alloc]; omega))).trans (by first | assumption | (go_cell; done) | (go_simp; done) | simp [*]); have b0_0cs : w0.heap.size < w2.heap.size := Nat.lt_of_lt_of_le (by first | assumption | (go_size; done) | (simp; omega) | (simp only [World.size_alloc]; omega)) hb.size
      clear hb hA1 b0_0b0 b0_0b1 b0_0b2 b0_0b3 b0_0bs
      go_wp2_with fail
      refine Calls.mono (H3.out _ (HG.out.below (by have := hA2.size; go_grown))) ?_
      rintro e w3 ⟨rfl, hb⟩
      have hA3 : Below w.heap.size w w3 := belowTo (by have := hA2.size; go_grown) hb
      have b0_0d0 : w3.cell? ⟨w0.heap.size, 0, none⟩ = some (.int .i64 (x)) := (hb.cell (p := ⟨w0.heap.size, 0, none⟩) (by first | assumption | (go_size; done) | (simp; omega) | (simp only [World.size_alloc]; omega))).trans (by first | assumption | (go_cell; done) | (go_simp; done) | simp [*]); have b0_0d1 : w3.cell? ⟨w0.heap.size, 1, none⟩ = some (.int .i64 (y)) := (hb.cell (p := ⟨w0.heap.size, 1, none⟩) (by first | assumption | (go_size; done) | (simp; omega) | (simp only [World.size_alloc]; omega))).trans (by first | assumption | (go_cell; done) | (go_simp; done) | simp [*]); have b0_0d2 : w3.cell? ⟨w0.heap.size, 2, none⟩ = some (.int .i64 (z)) := (hb.cell (p := ⟨w0.heap.size, 2, none⟩) (by first | assumption | (go_size; done) | (simp; omega) | (simp only [World.size_alloc]; omega))).trans (by first | assumption | (go_cell; done) | (go_simp; done) | simp [*]); have b0_0d3 : w3.cell? ⟨w0.heap.size, 3, none⟩ = some (.int .i64 (u)) := (hb.cell (p := ⟨w0.heap.size, 3, none⟩) (by first | assumption | (go_size; done) | (simp; omega) | (simp only [World.size_alloc]; omega))).trans (by first | assumption | (go_cell; done) | (go_simp; done) | simp [*]); have b0_0ds : w0.heap.size < w3.heap.size := Nat.lt_of_lt_of_le (by first | assumption | (go_size; done) | (simp; omega) | (simp only [World.size_alloc]; omega)) hb.size
      clear hb hA2 b0_0c0 b0_0c1 b0_0c2 b0_0c3 b0_0cs
      go_wp2_with fail
      refine Calls.mono (H4.out _ (HG.out.below (by have := hA3.size; go_grown))) ?_
      rintro e w4 ⟨rfl, hb⟩
      have hA4 : Below w.heap.size w w4 := belowTo (by have := hA3.size; go_grown) hb
      have b0_0e0 : w4.cell? ⟨w0.heap.size, 0, none⟩ = some (.int .i64 (x)) := (hb.cell (p := ⟨w0.heap.size, 0, none⟩) (by first | assumption | (go_size; done) | (simp; omega) | (simp only [World.size_alloc]; omega))).trans (by first | assumption | (go_cell; done) | (go_simp; done) | simp [*]); have b0_0e1 : w4.cell? ⟨w0.heap.size, 1, none⟩ = some (.int .i64 (y)) := (hb.cell (p := ⟨w0.heap.size, 1, none⟩) (by first | assumption | (go_size; done) | (simp; omega) | (simp only [World.size_alloc]; omega))).trans (by first | assumption | (go_cell; done) | (go_simp; done) | simp [*]); have b0_0e2 : w4.cell? ⟨w0.heap.size, 2, none⟩ = some (.int .i64 (z)) := (hb.cell (p := ⟨w0.heap.size, 2, none⟩) (by first | assumption | (go_size; done) | (simp; omega) | (simp only [World.size_alloc]; omega))).trans (by first | assumption | (go_cell; done) | (go_simp; done) | simp [*]); have b0_0e3 : w4.cell? ⟨w0.heap.size, 3, none⟩ = some (.int .i64 (u)) := (hb.cell (p := ⟨w0.heap.size, 3, none⟩) (by first | assumption | (go_size; done) | (simp; omega) | (simp only [World.size_alloc]; omega))).trans (by first | assumption | (go_cell; done) | (go_simp; done) | simp [*]); have b0_0es : w0.heap.size < w4.heap.size := Nat.lt_of_lt_of_le (by first | assumption | (go_size; done) | (simp; omega) | (simp only [World.size_alloc]; omega)) hb.size
      clear hb hA3 b0_0d0 b0_0d1 b0_0d2 b0_0d3 b0_0ds
      go_wp2_with fail
      refine Calls.mono (H5.out _ (HG.out.below (by have := hA4.size; go_grown))) ?_
      rintro e w5 ⟨rfl, hb⟩
      have hA5 : Below w.heap.size w w5 := belowTo (by have := hA4.size; go_grown) hb
      have b0_0f0 : w5.cell? ⟨w0.heap.size, 0, none⟩ = some (.int .i64 (x)) := (hb.cell (p := ⟨w0.heap.size, 0, none⟩) (by first | assumption | (go_size; done) | (simp; omega) | (simp only [World.size_alloc]; omega))).trans (by first | assumption | (go_cell; done) | (go_simp; done) | simp [*]); have b0_0f1 : w5.cell? ⟨w0.heap.size, 1, none⟩ = some (.int .i64 (y)) := (hb.cell (p := ⟨w0.heap.size, 1, none⟩) (by first | assumption | (go_size; done) | (simp; omega) | (simp only [World.size_alloc]; omega))).trans (by first | assumption | (go_cell; done) | (go_simp; done) | simp [*]); have b0_0f2 : w5.cell? ⟨w0.heap.size, 2, none⟩ = some (.int .i64 (z)) := (hb.cell (p := ⟨w0.heap.size, 2, none⟩) (by first | assumption | (go_size; done) | (simp; omega) | (simp only [World.size_alloc]; omega))).trans (by first | assumption | (go_cell; done) | (go_simp; done) | simp [*]); have b0_0f3 : w5.cell? ⟨w0.heap.size, 3, none⟩ = some (.int .i64 (u)) := (hb.cell (p := ⟨w0.heap.size, 3, none⟩) (by first | assumption | (go_size; done) | (simp; omega) | (simp only [World.size_alloc]; omega))).trans (by first | assumption | (go_cell; done) | (go_simp; done) | simp [*]); have b0_0fs : w0.heap.size < w5.heap.size := Nat.lt_of_lt_of_le (by first | assumption | (go_size; done) | (simp; omega) | (simp only [World.size_alloc]; omega)) hb.size
      clear hb hA4 b0_0e0 b0_0e1 b0_0e2 b0_0e3 b0_0es
      have hs5 := hA5.size
      by_cases h1 : n = 1
      · have q0 : q = 0 := by omega
        subst h1
        subst q0
        go_wp2
        go_returns
        exact ⟨by simp, by go_grown⟩
      · have h2 : 1 < n := by omega
        have h3 : (n == 1) = false := by simpa using h1
        have e2 := HO.out h2
        go_wp2
        go_returns
        exact ⟨by simp, by go_grown⟩
end Go.Proofs.YtjlobpccnplebaaDoor
