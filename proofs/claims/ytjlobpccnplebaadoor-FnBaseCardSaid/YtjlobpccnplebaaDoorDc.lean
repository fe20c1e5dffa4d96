/- The draws of chapter 1: vectors. -/
import Derived.Test.YtjlobpccnplebaaDoorDb
import Derived.Deep.DeepCutAuto
namespace Go.Proofs.YtjlobpccnplebaaDoor
open Go.RowKit

/-- All blocks below n0, but B, are as they were. -/
def Kept (n0 B : Nat) (w w' : World) : Prop :=
  (∀ b o, b < n0 → b ≠ B → w'.cell? ⟨b, o, none⟩ = w.cell? ⟨b, o, none⟩ ∧ w'.frozen? ⟨b, o, none⟩ = w.frozen? ⟨b, o, none⟩) ∧ w.heap.size ≤ w'.heap.size
theorem Kept.trans {n0 B : Nat} {a b c : World} (h : Kept n0 B a b) (k : Kept n0 B b c) : Kept n0 B a c :=
  ⟨fun x o h1 h2 => ⟨(k.1 x o h1 h2).1.trans (h.1 x o h1 h2).1, (k.1 x o h1 h2).2.trans (h.1 x o h1 h2).2⟩, Nat.le_trans h.2 k.2⟩
theorem Kept.of_below {n0 B : Nat} {w w' : World} (h : Below n0 w w') : Kept n0 B w w' :=
  ⟨fun _ _ h1 _ => ⟨h.cell (p := ⟨_, _, none⟩) h1, h.frozen (p := ⟨_, _, none⟩) h1⟩, h.size⟩
theorem Kept.of_pick {n0 B : Nat} {w w' : World} (k : ∀ b o, b ≠ B → w'.cell? ⟨b, o, none⟩ = w.cell? ⟨b, o, none⟩) (f : ∀ b o, b ≠ B → w'.frozen? ⟨b, o, none⟩ = w.frozen? ⟨b, o, none⟩) (s : w'.heap.size = w.heap.size) : Kept n0 B w w' :=
  ⟨fun b o _ h => ⟨k b o h, f b o h⟩, Nat.le_of_eq s.symm⟩

/-- Two numbers, and a reader that has gone on. -/
def DrewVec (w : World) (B : Nat) (a : Option Addr) (len cap : Nat) (p : Int) (e : Ending) (w' : World) : Prop :=
  ∃ x y p' : Int, e = .returned (.agg #[.int .i64 (x), .int .i64 (y)]) ∧ (-1001 ≤ x ∧ x ≤ 1001) ∧ (-1001 ≤ y ∧ y ≤ 1001) ∧ p ≤ p' ∧ p' ≤ p + 10 ∧ Reads w' B a len cap p' ∧ Below B w w' ∧ Kept w.heap.size B w w'

set_option maxHeartbeats 4000000 in
theorem l91Vec_any (w : World) (B : Nat) (a : Option Addr) (len cap : Nat) (p : Int) (h : Reads w B a len cap p) (hp : p ≤ 90000) :
    Calls Tryd.prog 83 #[.pointer (some ⟨B, 0, none⟩)] w (DrewVec w B a len cap p) := by
  have hB : B < w.heap.size := h.2.2.2.2.1
  have b0 : w.heap.size ≠ B := by omega
  have b1 : w.heap.size + 1 ≠ B := by omega
  have b2 : w.heap.size + 1 + 1 ≠ B := by omega
  have b3 : ¬ w.heap.size + 1 = w.heap.size := by omega
  go_enter Tryd.func83, Tryd.ntmps83
  go_wp2_with fail
  refine Calls.mono (pick_any _ B a len cap p 11 (h.below (by go_grown)) (by omega) (by omega)) ?_
  rintro e w1 ⟨x, rfl, x0, x1, r1, k1, f1, s1, q1⟩
  have K1 : Kept w.heap.size B w w1 := (Kept.of_below (by go_grown)).trans (Kept.of_pick k1 f1 s1)
  have Q1 : Below B w w1 := Below.trans ((Below.refl B w).alloc (Nat.le_of_lt hB) _) q1
  rw [World.size_alloc] at s1
  go_wp2_with fail
  refine Calls.mono (pick_any _ B a len cap (p + 1) 11 r1 (by omega) (by omega)) ?_
  rintro e w2 ⟨y, rfl, y0, y1, r2, k2, f2, s2, q2⟩
  have K2 := K1.trans (Kept.of_pick k2 f2 s2)
  have Q2 := Q1.trans q2
  rw [s1] at s2
  clear K1 Q1 q1 q2 s1
  have g0 : w2.cell? ⟨w.heap.size, 0, none⟩ = some (.int .i64 0) := by rw [k2 _ _ b0, k1 _ _ b0]; simp
  have g1 : w2.cell? ⟨w.heap.size, 1, none⟩ = some (.int .i64 0) := by rw [k2 _ _ b0, k1 _ _ b0]; simp
  have g2 : w2.frozen? ⟨w.heap.size, 0, none⟩ = false := by rw [f2 _ _ b0, f1 _ _ b0]; simp
  have g3 : w2.frozen? ⟨w.heap.size, 1, none⟩ = false := by rw [f2 _ _ b0, f1 _ _ b0]; simp
  clear k1 f1 k2 f2
  go_wp2_with fail
  refine Calls.mono (pick_any _ B a len cap (p + 1 + 1) 30 (r2.below (by have := s2; go_grown)) (by omega) (by omega)) ?_
  rintro e w3 ⟨z, rfl, z0, z1, r3, k3, f3, s3, q3⟩
  have K3 := (K2.trans (Kept.of_below (by have := s2; go_grown))).trans (Kept.of_pick k3 f3 s3)
  have Q3 : Below B w w3 := (Q2.alloc (by have := s2; go_size) _).trans q3
  rw [World.size_alloc, s2] at s3
  have u0 : w3.cell? ⟨w.heap.size, 0, none⟩ = some (.int .i64 0) := by rw [k3 _ _ b0, World.cell?_alloc_lt _ _ ⟨w.heap.size, 0, none⟩ (by show w.heap.size < w2.heap.size; omega)]; exact g0
  have u1 : w3.cell? ⟨w.heap.size, 1, none⟩ = some (.int .i64 0) := by rw [k3 _ _ b0, World.cell?_alloc_lt _ _ ⟨w.heap.size, 1, none⟩ (by show w.heap.size < w2.heap.size; omega)]; exact g1
  have u2 : w3.frozen? ⟨w.heap.size, 0, none⟩ = false := by rw [f3 _ _ b0, World.frozen?_alloc_old _ _ ⟨w.heap.size, 0, none⟩ (by show w.heap.size ≠ w2.heap.size; omega)]; exact g2
  have u3 : w3.frozen? ⟨w.heap.size, 1, none⟩ = false := by rw [f3 _ _ b0, World.frozen?_alloc_old _ _ ⟨w.heap.size, 1, none⟩ (by show w.heap.size ≠ w2.heap.size; omega)]; exact g3
  have v0 : w3.cell? ⟨w.heap.size + 1, 0, none⟩ = some (.int .i64 (x - 5)) := by rw [k3 _ _ b1, World.cell?_alloc_at _ _ _ _ (by omega)]; rfl
  have v1 : w3.cell? ⟨w.heap.size + 1, 1, none⟩ = some (.int .i64 (y - 5)) := by rw [k3 _ _ b1, World.cell?_alloc_at _ _ _ _ (by omega)]; rfl
  clear K2 Q2 q3 g0 g1 g2 g3 r2
  by_cases hz : z = 0
  · subst hz
    go_wp2_with fail
    refine Calls.mono (pick_any _ B a len cap (p + 1 + 1 + 1) 3 (r3.below (by have := s3; go_grown)) (by omega) (by omega)) ?_
    rintro e w4 ⟨v, rfl, v00, v3, r4, k4, f4, s4, q4⟩
    have K4 := (K3.trans (Kept.of_below (by have := s3; go_grown))).trans (Kept.of_pick k4 f4 s4)
    have Q4 : Below B w w4 := (Q3.alloc (by have := s3; go_size) _).trans q4
    rw [World.size_alloc, s3] at s4
    have t0 : w4.cell? ⟨w.heap.size, 0, none⟩ = some (.int .i64 0) := by rw [k4 _ _ b0, World.cell?_alloc_lt _ _ ⟨w.heap.size, 0, none⟩ (by show w.heap.size < w3.heap.size; omega)]; exact u0
    have t1 : w4.cell? ⟨w.heap.size, 1, none⟩ = some (.int .i64 0) := by rw [k4 _ _ b0, World.cell?_alloc_lt _ _ ⟨w.heap.size, 1, none⟩ (by show w.heap.size < w3.heap.size; omega)]; exact u1
    have t2 : w4.frozen? ⟨w.heap.size, 0, none⟩ = false := by rw [f4 _ _ b0, World.frozen?_alloc_old _ _ ⟨w.heap.size, 0, none⟩ (by show w.heap.size ≠ w3.heap.size; omega)]; exact u2
    have t3 : w4.frozen? ⟨w.heap.size, 1, none⟩ = false := by rw [f4 _ _ b0, World.frozen?_alloc_old _ _ ⟨w.heap.size, 1, none⟩ (by show w.heap.size ≠ w3.heap.size; omega)]; exact u3
    have t4 : w4.cell? ⟨w.heap.size + 1, 0, none⟩ = some (.int .i64 (x - 5)) := by rw [k4 _ _ b1, World.cell?_alloc_lt _ _ ⟨w.heap.size + 1, 0, none⟩ (by show w.heap.size + 1 < w3.heap.size; omega)]; exact v0
    have t5 : w4.cell? ⟨w.heap.size + 1, 1, none⟩ = some (.int .i64 (y - 5)) := by rw [k4 _ _ b1, World.cell?_alloc_lt _ _ ⟨w.heap.size + 1, 1, none⟩ (by show w.heap.size + 1 < w3.heap.size; omega)]; exact v1
    have t6 : w4.frozen? ⟨w.heap.size + 1, 0, none⟩ = false := by rw [f4 _ _ b1, World.frozen?_alloc_old _ _ ⟨w.heap.size + 1, 0, none⟩ (by show w.heap.size + 1 ≠ w3.heap.size; omega), f3 _ _ b1, World.frozen?_alloc_at _ _ _ _ (by omega)]
    have c0 : w4.cell? ⟨w.heap.size + 1 + 1, 0, none⟩ = some (.int .i64 1000) := by rw [k4 _ _ b2, World.cell?_alloc_at _ _ _ _ (by omega)]; rfl
    have c1 : w4.cell? ⟨w.heap.size + 1 + 1, 1, none⟩ = some (.int .i64 (-1000)) := by rw [k4 _ _ b2, World.cell?_alloc_at _ _ _ _ (by omega)]; rfl
    have c2 : w4.cell? ⟨w.heap.size + 1 + 1, 2, none⟩ = some (.int .i64 1001) := by rw [k4 _ _ b2, World.cell?_alloc_at _ _ _ _ (by omega)]; rfl
    clear K3 Q3 q4 k3 f3 k4 f4 u0 u1 u2 u3 v0 v1 r3
    obtain hv | hv | hv : v = 0 ∨ v = 1 ∨ v = 2 := by omega
    all_goals
      subst hv
      go_wp2
      refine bodyPost_ret (by simp [results, Tryd.results83, go_sem, t0, t1]; try rfl) rfl ?_
      exact ⟨_, _, _, rfl, ⟨by omega, by omega⟩, ⟨by omega, by omega⟩, by omega, by omega, r4.below (by have := s4; go_grown), by go_grown, K4.trans (Kept.of_below (by have := s4; go_grown))⟩
  · have zb : (z == 0) = false := by simpa using hz
    clear k3 f3
    go_wp2
    refine bodyPost_ret (by simp [results, Tryd.results83, go_sem, u0, u1]; try rfl) rfl ?_
    exact ⟨_, _, _, rfl, ⟨by omega, by omega⟩, ⟨by omega, by omega⟩, by omega, by omega, r3.below (by have := s3; go_grown), by go_grown, K3.trans (Kept.of_below (by have := s3; go_grown))⟩
end Go.Proofs.YtjlobpccnplebaaDoor
