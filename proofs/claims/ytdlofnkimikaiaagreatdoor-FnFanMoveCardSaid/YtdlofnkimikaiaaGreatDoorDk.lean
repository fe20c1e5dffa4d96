/- The draws of chapter 2: primitive vectors, cones. -/
import Derived.Test.YtdlofnkimikaiaaGreatDoorBc
import Derived.Test.YtdlofnkimikaiaaGreatDoorBs
import Derived.Test.YtdlofnkimikaiaaGreatDoorB2
import Derived.Test.YtdlofnkimikaiaaGreatDoorB1
import Derived.Laws.StructEq
namespace Go.Proofs.YtdlofnkimikaiaaGreatDoor
open Go.RowKit

theorem Kept.mono {n0 n1 B : Nat} {w w' : World} (h : Kept n1 B w w') (hn : n0 ≤ n1) : Kept n0 B w w' :=
  ⟨fun b o h1 h2 => h.1 b o (Nat.lt_of_lt_of_le h1 hn) h2, h.2⟩
def DrewPrim (w : World) (B : Nat) (a : Option Addr) (len cap : Nat) (p : Int) (e : Ending) (w' : World) : Prop :=
  ∃ x y p' : Int, e = .returned (.agg #[.int .i64 (x), .int .i64 (y)]) ∧ (-6 ≤ x ∧ x ≤ 6) ∧ (-6 ≤ y ∧ y ≤ 6) ∧ p ≤ p' ∧ p' ≤ p + 10 ∧ Reads w' B a len cap p' ∧ Below B w w' ∧ Kept w.heap.size B w w'
theorem six_vec {x y : Int} (h1 : -6 ≤ x ∧ x ≤ 6) (h2 : -6 ≤ y ∧ y ≤ 6) : vecB x y = true := by
  unfold vecB
  rw [szB_mk (by omega) (by omega), szB_mk (by omega) (by omega)]
  rfl
set_option maxHeartbeats 4000000 in
theorem l91Primitive_any (w : World) (B : Nat) (a : Option Addr) (len cap : Nat) (p : Int) (h : Reads w B a len cap p) (hp : p ≤ 90000) :
    Calls Tryz.prog 59 #[.pointer (some ⟨B, 0, none⟩)] w (DrewPrim w B a len cap p) := by
  have hB : B < w.heap.size := h.2.2.2.2.1
  have b0 : w.heap.size ≠ B := by omega
  have b3 : ¬ w.heap.size + 1 = w.heap.size := by omega
  go_enter Tryz.func59, Tryz.ntmps59
  go_wp2_with fail
  refine Calls.mono (pick_any _ B a len cap p 13 (h.below (by go_grown)) (by omega) (by omega)) ?_
  rintro e w1 ⟨x, rfl, x0, x1, r1, k1, f1, s1, q1⟩
  have K1 : Kept w.heap.size B w w1 := (Kept.of_below (by go_grown)).trans (Kept.of_pick k1 f1 s1)
  have Q1 : Below B w w1 := Below.trans ((Below.refl B w).alloc (Nat.le_of_lt hB) _) q1
  rw [World.size_alloc] at s1
  go_wp2_with fail
  refine Calls.mono (pick_any _ B a len cap (p + 1) 13 r1 (by omega) (by omega)) ?_
  rintro e w2 ⟨y, rfl, y0, y1, r2, k2, f2, s2, q2⟩
  have K2 := K1.trans (Kept.of_pick k2 f2 s2)
  have Q2 := Q1.trans q2
  rw [s1] at s2
  clear K1 Q1 q1 q2 s1
  have g0 : w2.cell? ⟨w.heap.size, 0, none⟩ = some (.int .i64 0) := by rw [k2 _ _ b0, k1 _ _ b0]; simp
  have g1 : w2.cell? ⟨w.heap.size, 1, none⟩ = some (.int .i64 0) := by rw [k2 _ _ b0, k1 _ _ b0]; simp
  have g2 : w2.frozen? ⟨w.heap.size, 0, none⟩ = false := by rw [f2 _ _ b0, f1 _ _ b0]; simp
  have g3 : w2.frozen? ⟨w.heap.size, 1, none⟩ = false := by rw [f2 _ _ b0, f1 _ _ b0]; simp
  clear k1 f1 k2 f2 r1
  have v1 : -6 ≤ x - 6 ∧ x - 6 ≤ 6 := by omega
  have v2 : -6 ≤ y - 6 ∧ y - 6 ≤ 6 := by omega
  by_cases hz : x - 6 = 0 ∧ y - 6 = 0
  · obtain rfl : x = 6 := by omega
    obtain rfl : y = 6 := by omega
    clear hz x0 x1 y0 y1 v1 v2
    have hsz : w.heap.size < w2.heap.size := by omega
    go_wp2
    refine bodyPost_ret (by simp [results, Tryz.results59, go_sem, g0, g1, hsz]; try rfl) rfl ?_
    exact ⟨_, _, _, rfl, ⟨by omega, by omega⟩, ⟨by omega, by omega⟩, by omega, by omega, r2.below (by have := s2; go_grown), by go_grown, K2.trans (Kept.of_below (by have := s2; go_grown))⟩
  · have hn : nzB (x - 6) (y - 6) = true := by
      unfold nzB
      cases h1 : (x - 6 == 0) <;> cases h2 : (y - 6 == 0) <;> simp at h1 h2 ⊢
      exact hz ⟨h1, h2⟩
    have HP := Lib.hid (fun w' => l1Primitive_any (x - 6) (y - 6) w' (six_vec v1 v2) hn)
    have t1 := tdiv_bd (m := gcdZ (x - 6) (y - 6)) v1
    have t2 := tdiv_bd (m := gcdZ (x - 6) (y - 6)) v2
    have qe : ∀ w', (binOp .eql 60 (.agg #[.int .i64 (x - 6), .int .i64 (y - 6)]) (.agg #[.int .i64 (0), .int .i64 (0)])).run Tryz.prog w' = .ok (.bool false) w' := fun w' => by
      have hS : Tryz.prog.underlying 60 = some (.struct (Tryz.prog.fieldsOf 60)) := by kernel_rfl
      have hp : Tryz.prog.stoodInHeld 60 = false := by kernel_rfl
      have u3 := Tryz.underlying3
      have a3 := Tryz.isAgg3
      have z3 := Tryz.sizeOf3
      rw [run_eql_struct, show (10000 : Nat) = 9999 + 1 from rfl, run_equalIn_agg w' 9999 60 _ _ hS hp]
      simp only [Program.fieldsOf, Tryz.underlying60]
      go_simp
      by_cases h1 : x - 6 = 0 <;> by_cases h2 : y - 6 = 0 <;> simp [h1, h2]
      exact hz ⟨h1, h2⟩
    generalize (x - 6).tdiv (gcdZ (x - 6) (y - 6)) = u at *
    generalize (y - 6).tdiv (gcdZ (x - 6) (y - 6)) = v at *
    clear hn v1 v2
    go_wp2_with fail
    refine Calls.mono (HP.out _) ?_
    rintro e w3 ⟨rfl, hb3⟩
    have c0 : w3.cell? ⟨w.heap.size, 0, none⟩ = some (.int .i64 0) := (hb3.cell (p := ⟨w.heap.size, 0, none⟩) (by simp; omega)).trans (by rw [World.cell?_alloc_lt _ _ ⟨w.heap.size, 0, none⟩ (by show w.heap.size < w2.heap.size; omega)]; exact g0)
    have c1 : w3.cell? ⟨w.heap.size, 1, none⟩ = some (.int .i64 0) := (hb3.cell (p := ⟨w.heap.size, 1, none⟩) (by simp; omega)).trans (by rw [World.cell?_alloc_lt _ _ ⟨w.heap.size, 1, none⟩ (by show w.heap.size < w2.heap.size; omega)]; exact g1)
    have c2 : w3.frozen? ⟨w.heap.size, 0, none⟩ = false := (hb3.frozen (p := ⟨w.heap.size, 0, none⟩) (by simp; omega)).trans (by rw [World.frozen?_alloc_old _ _ ⟨w.heap.size, 0, none⟩ (by show w.heap.size ≠ w2.heap.size; omega)]; exact g2)
    have c3 : w3.frozen? ⟨w.heap.size, 1, none⟩ = false := (hb3.frozen (p := ⟨w.heap.size, 1, none⟩) (by simp; omega)).trans (by rw [World.frozen?_alloc_old _ _ ⟨w.heap.size, 1, none⟩ (by show w.heap.size ≠ w2.heap.size; omega)]; exact g3)
    have hA : Below w2.heap.size w2 w3 := belowTo (by go_grown) hb3
    have r3 := r2.below (hA.mono (by omega))
    have Q3 : Below B w w3 := Q2.trans (hA.mono (by omega))
    have K3 := K2.trans (Kept.of_below (hA.mono (by omega)))
    have s3 := hA.size
    clear hb3 hA r2 Q2 K2 g0 g1 g2 g3
    go_wp2
    refine bodyPost_ret (by simp [results, Tryz.results59, go_sem, c0, c1]; try rfl) rfl ?_
    exact ⟨_, _, _, rfl, t1, t2, by omega, by omega, r3.below (by go_grown), by go_grown, K3.trans (Kept.of_below (by go_grown))⟩
def DrewCone (w : World) (B : Nat) (a : Option Addr) (len cap : Nat) (p : Int) (e : Ending) (w' : World) : Prop :=
  ∃ x y z u p' : Int, e = .returned (.agg #[.int .i64 (x), .int .i64 (y), .int .i64 (z), .int .i64 (u)]) ∧ (-6 ≤ x ∧ x ≤ 6) ∧ (-6 ≤ y ∧ y ≤ 6) ∧ (-6 ≤ z ∧ z ≤ 6) ∧ (-6 ≤ u ∧ u ≤ 6) ∧ p' ≤ p + 30 ∧ Reads w' B a len cap p' ∧ Below B w w' ∧ Kept w.heap.size B w w'
end Go.Proofs.YtdlofnkimikaiaaGreatDoor
