/- FnPrimitive. -/
import Derived.Test.YtomadlpdlmbmjaaDoorPv
namespace Go.Proofs.YtomadlpdlmbmjaaDoor
open Go.RowKit

theorem gcd_dvd (x y : Int) : gcdZ x y ∣ x ∧ gcdZ x y ∣ y := by
  unfold gcdZ
  exact ⟨Int.ofNat_dvd_left.2 (Nat.gcd_dvd_left _ _), Int.ofNat_dvd_left.2 (Nat.gcd_dvd_right _ _)⟩
theorem tdiv_mul {x g : Int} (h : g ∣ x) : x.tdiv g * g = x := Int.tdiv_mul_cancel h
theorem prim_own {x y : Int} (k : primOk x y = true) : x.tdiv (gcdZ x y) * gcdZ x y = x ∧ y.tdiv (gcdZ x y) * gcdZ x y = y ∧ timesOk (x.tdiv (gcdZ x y)) (y.tdiv (gcdZ x y)) (gcdZ x y) = true ∧ primOk (x.tdiv (gcdZ x y)) (y.tdiv (gcdZ x y)) = true ∧ gcdZ (x.tdiv (gcdZ x y)) (y.tdiv (gcdZ x y)) = 1 ∧ 0 < gcdZ x y := by
  unfold primOk at k
  rw [Bool.and_eq_true] at k
  obtain ⟨k1, k2⟩ := k
  obtain ⟨hx, hy⟩ := szs k1
  have hne : ¬ (x = 0 ∧ y = 0) := by rintro ⟨rfl, rfl⟩; simp [nzB] at k2
  have hp := gcdZ_pos hne
  have hl := gcdZ_le (x := x) (y := y) (n := 1000) hx hy
  obtain ⟨d1, d2⟩ := gcd_dvd x y
  have e1 := tdiv_mul d1
  have e2 := tdiv_mul d2
  have b1 := tdiv_bd (m := gcdZ x y) hx
  have b2 := tdiv_bd (m := gcdZ x y) hy
  have v1 := vec_mk b1 b2
  have hg : gcdZ (x.tdiv (gcdZ x y)) (y.tdiv (gcdZ x y)) = 1 := by
    have h3 : gcdZ (x.tdiv (gcdZ x y) * gcdZ x y) (y.tdiv (gcdZ x y) * gcdZ x y) = gcdZ (x.tdiv (gcdZ x y)) (y.tdiv (gcdZ x y)) * gcdZ x y := by
      generalize x.tdiv (gcdZ x y) = p
      generalize y.tdiv (gcdZ x y) = q
      have h0 : 0 ≤ gcdZ x y := by omega
      generalize gcdZ x y = g at *
      obtain ⟨m, rfl⟩ := Int.eq_ofNat_of_zero_le h0
      unfold gcdZ
      rw [Int.natAbs_mul, Int.natAbs_mul, Int.natAbs_natCast, Nat.gcd_mul_right]
      simp
    rw [e1, e2] at h3
    have h4 : gcdZ (x.tdiv (gcdZ x y)) (y.tdiv (gcdZ x y)) * gcdZ x y = 1 * gcdZ x y := by rw [Int.one_mul]; exact h3.symm
    exact Int.eq_of_mul_eq_mul_right (by omega) h4
  refine ⟨e1, e2, ?_, ?_, hg, by omega⟩
  · unfold timesOk
    rw [e1, e2, v1, k1, szB_mk (by omega) hl]
    rfl
  · unfold primOk
    rw [v1]
    show nzB _ _ = true
    cases hn : nzB (x.tdiv (gcdZ x y)) (y.tdiv (gcdZ x y))
    · exfalso
      have h0 : x.tdiv (gcdZ x y) = 0 ∧ y.tdiv (gcdZ x y) = 0 := by simpa [nzB] using hn
      rw [h0.1, Int.zero_mul] at e1
      rw [h0.2, Int.zero_mul] at e2
      exact hne ⟨e1.symm, e2.symm⟩
    · rfl
set_option maxHeartbeats 8000000 in
theorem fnPrimitive_any (a : Option Addr) (len cap : Nat) (w : World) (h : Bytes w a len cap) (hg : EtOk w) :
    Calls Tryd.prog 3 #[.slice a len cap] w fun e w' => e = .returned (.bool true) ∧ Below w.heap.size w w' := by
  by_cases hl : 1048576 < len
  · have hl' : (1048576 : Int) < (len : Int) := by omega
    go_enter Tryd.func3, Tryd.ntmps3
    go_wp2
    go_returns
    exact ⟨rfl, Below.refl _ _⟩
  · have hl' : (len : Int) ≤ 1048576 := by omega
    have HD := Lib.hid (drawVecPrimitive_any w a len cap h)
    have HG := Lib.hid hg
    clear h hg
    go_enter Tryd.func3, Tryd.ntmps3
    go_wp2_with fail
    refine Calls.mono HD.out ?_
    rintro e w0 ⟨x, y, rfl, hb0⟩
    have hA0 : Below w.heap.size w w0 := hb0
    clear hb0 HD
    cases k : primOk x y
    case false =>
      have H1 : Hid (∀ w' (hg' : EtOk w'), Calls Tryd.prog 13 #[.agg #[.int .i64 (x), .int .i64 (y)]] w' fun e w2 => e = .returned (.tuple #[.agg #[.int .i64 (0), .int .i64 (0)], .int .i64 (0), .bool false]) ∧ Below w'.heap.size w' w2) := fun w' hg' => giv (vecPrimitive_any x y w' hg') (by rw [k]; rfl)
      have H2 : Hid (∀ w', Calls Tryd.prog 14 #[.agg #[.int .i64 (x), .int .i64 (y)]] w' fun e w2 => e = .returned (.tuple #[.agg #[.int .i64 (0), .int .i64 (0)], .int .i64 (0), .bool false]) ∧ Below w'.heap.size w' w2) := fun w' => giv (specVecPrimitive_any x y w') (by rw [k]; rfl)
      go_wp2_with fail
      refine Calls.mono (H1.out _ (HG.out.below (by have := hA0.size; go_grown))) ?_
      rintro e w1 ⟨rfl, hb⟩
      have hA1 : Below w.heap.size w w1 := belowTo (by have := hA0.size; go_grown) hb
      have b0_0b0 : w1.cell? ⟨w0.heap.size, 0, none⟩ = some (.int .i64 (x)) := (hb.cell (p := ⟨w0.heap.size, 0, none⟩) (by first | assumption | (go_size; done) | (simp; omega) | (simp only [World.size_alloc]; omega))).trans (by first | assumption | (go_cell; done) | (go_simp; done) | simp [*]); have b0_0b1 : w1.cell? ⟨w0.heap.size, 1, none⟩ = some (.int .i64 (y)) := (hb.cell (p := ⟨w0.heap.size, 1, none⟩) (by first | assumption | (go_size; done) | (simp; omega) | (simp only [World.size_alloc]; omega))).trans (by first | assumption | (go_cell; done) | (go_simp; done) | simp [*]); have b0_0bs : w0.heap.size < w1.heap.size := Nat.lt_of_lt_of_le (by first | assumption | (go_size; done) | (simp; omega) | (simp only [World.size_alloc]; omega)) hb.size
      clear hb hA0 
      go_wp2_with fail
      refine Calls.mono (H2.out _) ?_
      rintro e w2 ⟨rfl, hb⟩
      have hA2 : Below w.heap.size w w2 := belowTo (by have := hA1.size; go_grown) hb
      have b0_0c0 : w2.cell? ⟨w0.heap.size, 0, none⟩ = some (.int .i64 (x)) := (hb.cell (p := ⟨w0.heap.size, 0, none⟩) (by first | assumption | (go_size; done) | (simp; omega) | (simp only [World.size_alloc]; omega))).trans (by first | assumption | (go_cell; done) | (go_simp; done) | simp [*]); have b0_0c1 : w2.cell? ⟨w0.heap.size, 1, none⟩ = some (.int .i64 (y)) := (hb.cell (p := ⟨w0.heap.size, 1, none⟩) (by first | assumption | (go_size; done) | (simp; omega) | (simp only [World.size_alloc]; omega))).trans (by first | assumption | (go_cell; done) | (go_simp; done) | simp [*]); have b0_0cs : w0.heap.size < w2.heap.size := Nat.lt_of_lt_of_le (by first | assumption | (go_size; done) | (simp; omega) | (simp only [World.size_alloc]; omega)) hb.size
      have b1_0c0 : w2.cell? ⟨w1.heap.size, 0, none⟩ = some (.int .i64 (0)) := (hb.cell (p := ⟨w1.heap.size, 0, none⟩) (by first | assumption | (go_size; done) | (simp; omega) | (simp only [World.size_alloc]; omega))).trans (by first | assumption | (go_cell; done) | (go_simp; done) | simp [*]); have b1_0c1 : w2.cell? ⟨w1.heap.size, 1, none⟩ = some (.int .i64 (0)) := (hb.cell (p := ⟨w1.heap.size, 1, none⟩) (by first | assumption | (go_size; done) | (simp; omega) | (simp only [World.size_alloc]; omega))).trans (by first | assumption | (go_cell; done) | (go_simp; done) | simp [*]); have b1_0cs : w1.heap.size < w2.heap.size := Nat.lt_of_lt_of_le (by first | assumption | (go_size; done) | (simp; omega) | (simp only [World.size_alloc]; omega)) hb.size
      clear hb hA1 b0_0b0 b0_0b1 b0_0bs
      have hs2 := hA2.size
      go_wp2
      go_returns
      exact ⟨by simp, by go_grown⟩
    case true =>
      have H1 : Hid (∀ w' (hg' : EtOk w'), Calls Tryd.prog 13 #[.agg #[.int .i64 (x), .int .i64 (y)]] w' fun e w2 => e = .returned (.tuple #[.agg #[.int .i64 (x.tdiv (gcdZ x y)), .int .i64 (y.tdiv (gcdZ x y))], .int .i64 (gcdZ x y), .bool true]) ∧ Below w'.heap.size w' w2) := fun w' hg' => giv (vecPrimitive_any x y w' hg') (by rw [k]; rfl)
      have H2 : Hid (∀ w', Calls Tryd.prog 14 #[.agg #[.int .i64 (x), .int .i64 (y)]] w' fun e w2 => e = .returned (.tuple #[.agg #[.int .i64 (x.tdiv (gcdZ x y)), .int .i64 (y.tdiv (gcdZ x y))], .int .i64 (gcdZ x y), .bool true]) ∧ Below w'.heap.size w' w2) := fun w' => giv (specVecPrimitive_any x y w') (by rw [k]; rfl)
      obtain ⟨p1, p2, p3, p4, p5, p6⟩ := prim_own k
      have H3 : Hid (∀ w' (hg' : EtOk w'), Calls Tryd.prog 15 #[.agg #[.int .i64 (x.tdiv (gcdZ x y)), .int .i64 (y.tdiv (gcdZ x y))], .int .i64 (gcdZ x y)] w' fun e w2 => e = .returned (.tuple #[.agg #[.int .i64 (x), .int .i64 (y)], .bool true]) ∧ Below w'.heap.size w' w2) := fun w' hg' => giv (vecTimes_any (x.tdiv (gcdZ x y)) (y.tdiv (gcdZ x y)) (gcdZ x y) w' hg') (by rw [p3, gate_true, gate_true, p1, p2])
      have H4 : Hid (∀ w' (hg' : EtOk w'), Calls Tryd.prog 13 #[.agg #[.int .i64 (x.tdiv (gcdZ x y)), .int .i64 (y.tdiv (gcdZ x y))]] w' fun e w2 => e = .returned (.tuple #[.agg #[.int .i64 (x.tdiv (gcdZ x y)), .int .i64 (y.tdiv (gcdZ x y))], .int .i64 (1), .bool true]) ∧ Below w'.heap.size w' w2) := fun w' hg' => giv (vecPrimitive_any (x.tdiv (gcdZ x y)) (y.tdiv (gcdZ x y)) w' hg') (by rw [p4, p5, gate_true, gate_true, gate_true, Int.tdiv_one, Int.tdiv_one])
      clear p1 p2 p3 p4 p5 k
      generalize x.tdiv (gcdZ x y) = p at *
      generalize y.tdiv (gcdZ x y) = q at *
      generalize gcdZ x y = g at *
      go_wp2_with fail
      refine Calls.mono (H1.out _ (HG.out.below (by have := hA0.size; go_grown))) ?_
      rintro e w1 ⟨rfl, hb⟩
      have hA1 : Below w.heap.size w w1 := belowTo (by have := hA0.size; go_grown) hb
      have b0_0b0 : w1.cell? ⟨w0.heap.size, 0, none⟩ = some (.int .i64 (x)) := (hb.cell (p := ⟨w0.heap.size, 0, none⟩) (by first | assumption | (go_size; done) | (simp; omega) | (simp only [World.size_alloc]; omega))).trans (by first | assumption | (go_cell; done) | (go_simp; done) | simp [*]); have b0_0b1 : w1.cell? ⟨w0.heap.size, 1, none⟩ = some (.int .i64 (y)) := (hb.cell (p := ⟨w0.heap.size, 1, none⟩) (by first | assumption | (go_size; done) | (simp; omega) | (simp only [World.size_alloc]; omega))).trans (by first | assumption | (go_cell; done) | (go_simp; done) | simp [*]); have b0_0bs : w0.heap.size < w1.heap.size := Nat.lt_of_lt_of_le (by first | assumption | (go_size; done) | (simp; omega) | (simp only [World.size_alloc]; omega)) hb.size
      clear hb hA0 
      go_wp2_with fail
      refine Calls.mono (H2.out _) ?_
      rintro e w2 ⟨rfl, hb⟩
      have hA2 : Below w.heap.size w w2 := belowTo (by have := hA1.size; go_grown) hb
      have b0_0c0 : w2.cell? ⟨w0.heap.size, 0, none⟩ = some (.int .i64 (x)) := (hb.cell (p := ⟨w0.heap.size, 0, none⟩) (by first | assumption | (go_size; done) | (simp; omega) | (simp only [World.size_alloc]; omega))).trans (by first | assumption | (go_cell; done) | (go_simp; done) | simp [*]); have b0_0c1 : w2.cell? ⟨w0.heap.size, 1, none⟩ = some (.int .i64 (y)) := (hb.cell (p := ⟨w0.heap.size, 1, none⟩) (by first | assumption | (go_size; done) | (simp; omega) | (simp only [World.size_alloc]; omega))).trans (by first | assumption | (go_cell; done) | (go_simp; done) | simp [*]); have b0_0cs : w0.heap.size < w2.heap.size := Nat.lt_of_lt_of_le (by first | assumption | (go_size; done) | (simp; omega) | (simp only [World.size_alloc]; omega)) hb.size
      have b1_0c0 : w2.cell? ⟨w1.heap.size, 0, none⟩ = some (.int .i64 (p)) := (hb.cell (p := ⟨w1.heap.size, 0, none⟩) (by first | assumption | (go_size; done) | (simp; omega) | (simp only [World.size_alloc]; omega))).trans (by first | assumption | (go_cell; done) | (go_simp; done) | simp [*]); have b1_0c1 : w2.cell? ⟨w1.heap.size, 1, none⟩ = some (.int .i64 (q)) := (hb.cell (p := ⟨w1.heap.size, 1, none⟩) (by first | assumption | (go_size; done) | (simp; omega) | (simp only [World.size_alloc]; omega))).trans (by first | assumption | (go_cell; done) | (go_simp; done) | simp [*]); have b1_0cs : w1.heap.size < w2.heap.size := Nat.lt_of_lt_of_le (by first | assumption | (go_size; done) | (simp; omega) | (simp only [World.size_alloc]; omega)) hb.size
      clear hb hA1 b0_0b0 b0_0b1 b0_0bs
      go_wp2_with fail
      refine Calls.mono (H3.out _ (HG.out.below (by have := hA2.size; go_grown))) ?_
      rintro e w3 ⟨rfl, hb⟩
      have hA3 : Below w.heap.size w w3 := belowTo (by have := hA2.size; go_grown) hb
      have b0_0d0 : w3.cell? ⟨w0.heap.size, 0, none⟩ = some (.int .i64 (x)) := (hb.cell (p := ⟨w0.heap.size, 0, none⟩) (by first | assumption | (go_size; done) | (simp; omega) | (simp only [World.size_alloc]; omega))).trans (by first | assumption | (go_cell; done) | (go_simp; done) | simp [*]); have b0_0d1 : w3.cell? ⟨w0.heap.size, 1, none⟩ = some (.int .i64 (y)) := (hb.cell (p := ⟨w0.heap.size, 1, none⟩) (by first | assumption | (go_size; done) | (simp; omega) | (simp only [World.size_alloc]; omega))).trans (by first | assumption | (go_cell; done) | (go_simp; done) | simp [*]); have b0_0ds : w0.heap.size < w3.heap.size := Nat.lt_of_lt_of_le (by first | assumption | (go_size; done) | (simp; omega) | (simp only [World.size_alloc]; omega)) hb.size
      have b1_0d0 : w3.cell? ⟨w1.heap.size, 0, none⟩ = some (.int .i64 (p)) := (hb.cell (p := ⟨w1.heap.size, 0, none⟩) (by first | assumption | (go_size; done) | (simp; omega) | (simp only [World.size_alloc]; omega))).trans (by first | assumption | (go_cell; done) | (go_simp; done) | simp [*]); have b1_0d1 : w3.cell? ⟨w1.heap.size, 1, none⟩ = some (.int .i64 (q)) := (hb.cell (p := ⟨w1.heap.size, 1, none⟩) (by first | assumption | (go_size; done) | (simp; omega) | (simp only [World.size_alloc]; omega))).trans (by first | assumption | (go_cell; done) | (go_simp; done) | simp [*]); have b1_0ds : w1.heap.size < w3.heap.size := Nat.lt_of_lt_of_le (by first | assumption | (go_size; done) | (simp; omega) | (simp only [World.size_alloc]; omega)) hb.size
      clear hb hA2 b0_0c0 b0_0c1 b0_0cs b1_0c0 b1_0c1 b1_0cs
      go_wp2_with fail
      refine Calls.mono (H4.out _ (HG.out.below (by have := hA3.size; go_grown))) ?_
      rintro e w4 ⟨rfl, hb⟩
      have hA4 : Below w.heap.size w w4 := belowTo (by have := hA3.size; go_grown) hb
      have b0_0e0 : w4.cell? ⟨w0.heap.size, 0, none⟩ = some (.int .i64 (x)) := (hb.cell (p := ⟨w0.heap.size, 0, none⟩) (by first | assumption | (go_size; done) | (simp; omega) | (simp only [World.size_alloc]; omega))).trans (by first | assumption | (go_cell; done) | (go_simp; done) | simp [*]); have b0_0e1 : w4.cell? ⟨w0.heap.size, 1, none⟩ = some (.int .i64 (y)) := (hb.cell (p := ⟨w0.heap.size, 1, none⟩) (by first | assumption | (go_size; done) | (simp; omega) | (simp only [World.size_alloc]; omega))).trans (by first | assumption | (go_cell; done) | (go_simp; done) | simp [*]); have b0_0es : w0.heap.size < w4.heap.size := Nat.lt_of_lt_of_le (by first | assumption | (go_size; done) | (simp; omega) | (simp only [World.size_alloc]; omega)) hb.size
      have b1_0e0 : w4.cell? ⟨w1.heap.size, 0, none⟩ = some (.int .i64 (p)) := (hb.cell (p := ⟨w1.heap.size, 0, none⟩) (by first | assumption | (go_size; done) | (simp; omega) | (simp only [World.size_alloc]; omega))).trans (by first | assumption | (go_cell; done) | (go_simp; done) | simp [*]); have b1_0e1 : w4.cell? ⟨w1.heap.size, 1, none⟩ = some (.int .i64 (q)) := (hb.cell (p := ⟨w1.heap.size, 1, none⟩) (by first | assumption | (go_size; done) | (simp; omega) | (simp only [World.size_alloc]; omega))).trans (by first | assumption | (go_cell; done) | (go_simp; done) | simp [*]); have b1_0es : w1.heap.size < w4.heap.size := Nat.lt_of_lt_of_le (by first | assumption | (go_size; done) | (simp; omega) | (simp only [World.size_alloc]; omega)) hb.size
      have b3_0e0 : w4.cell? ⟨w3.heap.size, 0, none⟩ = some (.int .i64 (x)) := (hb.cell (p := ⟨w3.heap.size, 0, none⟩) (by first | assumption | (go_size; done) | (simp; omega) | (simp only [World.size_alloc]; omega))).trans (by first | assumption | (go_cell; done) | (go_simp; done) | simp [*]); have b3_0e1 : w4.cell? ⟨w3.heap.size, 1, none⟩ = some (.int .i64 (y)) := (hb.cell (p := ⟨w3.heap.size, 1, none⟩) (by first | assumption | (go_size; done) | (simp; omega) | (simp only [World.size_alloc]; omega))).trans (by first | assumption | (go_cell; done) | (go_simp; done) | simp [*]); have b3_0es : w3.heap.size < w4.heap.size := Nat.lt_of_lt_of_le (by first | assumption | (go_size; done) | (simp; omega) | (simp only [World.size_alloc]; omega)) hb.size
      clear hb hA3 b0_0d0 b0_0d1 b0_0ds b1_0d0 b1_0d1 b1_0ds
      have hs4 := hA4.size
      go_wp2
      go_returns
      exact ⟨by simp, by go_grown⟩
end Go.Proofs.YtomadlpdlmbmjaaDoor
