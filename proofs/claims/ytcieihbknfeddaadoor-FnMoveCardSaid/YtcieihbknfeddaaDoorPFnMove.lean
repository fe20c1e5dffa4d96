/- FnMove. -/
import Derived.Test.YtcieihbknfeddaaDoorPx
import Derived.Test.YtcieihbknfeddaaDoorJ2
import Derived.Test.YtcieihbknfeddaaDoorPFnPrimitive
namespace Go.Proofs.YtcieihbknfeddaaDoor
open Go.RowKit

theorem move_in {a b c d x y : Int} (h : moveOk a b c d x y = true) : matB a b c d = true ∧ vecB x y = true ∧ vecB (moveX a b x y) (moveX c d x y) = true := by
  unfold moveOk at h
  simp only [Bool.and_eq_true] at h
  exact ⟨h.1, h.2.1, h.2.2⟩
theorem moved_back {a b c d p q : Int} (k : matB a b c d = true) :
    moveX (detM a b c d * d) (-(detM a b c d * b)) (moveX a b p q) (moveX c d p q) = p ∧ moveX (-(detM a b c d * c)) (detM a b c d * a) (moveX a b p q) (moveX c d p q) = q := by
  obtain ⟨_, hk⟩ := mat_in k
  have hd : a * d - b * c = detM a b c d := rfl
  obtain h1 | h1 : detM a b c d = 1 ∨ detM a b c d = -1 := by simpa [detOk] using hk
  all_goals
    rw [h1] at hd ⊢
    unfold moveX
    refine ⟨?_, ?_⟩ <;> grind
theorem dvd_gcdZ {k a b : Int} (h1 : k ∣ a) (h2 : k ∣ b) : k ∣ gcdZ a b := Int.dvd_coe_gcd h1 h2
theorem dvd_move {k a b x y : Int} (h1 : k ∣ x) (h2 : k ∣ y) : k ∣ moveX a b x y := Int.dvd_add (Int.dvd_trans h1 (Int.dvd_mul_left _ _)) (Int.dvd_trans h2 (Int.dvd_mul_left _ _))
theorem gcd_move {a b c d p q : Int} (k : matB a b c d = true) : gcdZ (moveX a b p q) (moveX c d p q) = gcdZ p q := by
  obtain ⟨b1, b2⟩ := moved_back (p := p) (q := q) k
  obtain ⟨e1, e2⟩ := gcd_dvd p q
  obtain ⟨e3, e4⟩ := gcd_dvd (moveX a b p q) (moveX c d p q)
  refine Int.dvd_antisymm (gcdZ_nonneg _ _) (gcdZ_nonneg _ _) (dvd_gcdZ ?_ ?_) (dvd_gcdZ (dvd_move e1 e2) (dvd_move e1 e2))
  · have := dvd_move (a := detM a b c d * d) (b := -(detM a b c d * b)) e3 e4
    rwa [b1] at this
  · have := dvd_move (a := -(detM a b c d * c)) (b := detM a b c d * a) e3 e4
    rwa [b2] at this
theorem moved_prim {a b c d p q : Int} (h : moveOk a b c d p q = true) : primOk (moveX a b p q) (moveX c d p q) = primOk p q ∧ gcdZ (moveX a b p q) (moveX c d p q) = gcdZ p q := by
  obtain ⟨k1, k2, k3⟩ := move_in h
  refine ⟨?_, gcd_move k1⟩
  unfold primOk
  rw [k2, k3]
  show nzB _ _ = nzB _ _
  obtain ⟨b1, b2⟩ := moved_back (p := p) (q := q) k1
  cases h1 : nzB p q
  · have h0 : p = 0 ∧ q = 0 := by simpa [nzB] using h1
    obtain ⟨rfl, rfl⟩ := h0
    simp [moveX, nzB]
  · cases h2 : nzB (moveX a b p q) (moveX c d p q)
    · have h0 : moveX a b p q = 0 ∧ moveX c d p q = 0 := by simpa [nzB] using h2
      rw [h0.1, h0.2] at b1 b2
      have e1 : p = 0 := by rw [← b1]; simp [moveX]
      have e2 : q = 0 := by rw [← b2]; simp [moveX]
      subst e1
      subst e2
      simp [nzB] at h1
    · rfl
set_option maxHeartbeats 8000000 in
theorem fnMove_any (a : Option Addr) (len cap : Nat) (w : World) (h : Bytes w a len cap) (hg : EtOk w) :
    Calls Tryd.prog 3 #[.slice a len cap] w fun e w' => e = .returned (.bool true) ∧ Below w.heap.size w w' := by
  by_cases hl : 1048576 < len
  · have hl' : (1048576 : Int) < (len : Int) := by omega
    go_enter Tryd.func3, Tryd.ntmps3
    go_wp2
    go_returns
    exact ⟨rfl, Below.refl _ _⟩
  · have hl' : (len : Int) ≤ 1048576 := by omega
    have HD := Lib.hid (drawMatMove_any w a len cap h)
    have HG := Lib.hid hg
    clear h hg
    go_enter Tryd.func3, Tryd.ntmps3
    go_wp2_with fail
    refine Calls.mono HD.out ?_
    rintro e w0 ⟨x, y, z, u, p, q, rfl, hb0⟩
    have hA0 : Below w.heap.size w w0 := hb0
    clear hb0 HD
    cases k : moveOk x y z u p q
    case false =>
      have H1 : Hid (∀ w' (hg' : EtOk w'), Calls Tryd.prog 20 #[.agg #[.int .i64 (x), .int .i64 (y), .int .i64 (z), .int .i64 (u)], .agg #[.int .i64 (p), .int .i64 (q)]] w' fun e w2 => e = .returned (.tuple #[.agg #[.int .i64 (0), .int .i64 (0)], .bool false]) ∧ Below w'.heap.size w' w2) := fun w' hg' => giv (matMove_any x y z u p q w' hg') (by rw [k]; rfl)
      have H2 : Hid (∀ w', Calls Tryd.prog 21 #[.agg #[.int .i64 (x), .int .i64 (y), .int .i64 (z), .int .i64 (u)], .agg #[.int .i64 (p), .int .i64 (q)]] w' fun e w2 => e = .returned (.tuple #[.agg #[.int .i64 (0), .int .i64 (0)], .bool false]) ∧ Below w'.heap.size w' w2) := fun w' => giv (specMatMove_any x y z u p q w') (by rw [k]; rfl)
      go_wp2_with fail
      refine Calls.mono (H1.out _ (HG.out.below (by have := hA0.size; go_grown))) ?_
      rintro e w1 ⟨rfl, hb⟩
      have hA1 : Below w.heap.size w w1 := belowTo (by have := hA0.size; go_grown) hb
      have b0_0b0 : w1.cell? ⟨w0.heap.size, 0, none⟩ = some (.int .i64 (x)) := (hb.cell (p := ⟨w0.heap.size, 0, none⟩) (by first | assumption | (go_size; done) | (simp; omega) | (simp only [World.size_alloc]; omega))).trans (by first | assumption | (go_cell; done) | (go_simp; done) | simp [*]); have b0_0b1 : w1.cell? ⟨w0.heap.size, 1, none⟩ = some (.int .i64 (y)) := (hb.cell (p := ⟨w0.heap.size, 1, none⟩) (by first | assumption | (go_size; done) | (simp; omega) | (simp only [World.size_alloc]; omega))).trans (by first | assumption | (go_cell; done) | (go_simp; done) | simp [*]); have b0_0b2 : w1.cell? ⟨w0.heap.size, 2, none⟩ = some (.int .i64 (z)) := (hb.cell (p := ⟨w0.heap.size, 2, none⟩) (by first | assumption | (go_size; done) | (simp; omega) | (simp only [World.size_alloc]; omega))).trans (by first | assumption | (go_cell; done) | (go_simp; done) | simp [*]); have b0_0b3 : w1.cell? ⟨w0.heap.size, 3, none⟩ = some (.int .i64 (u)) := (hb.cell (p := ⟨w0.heap.size, 3, none⟩) (by first | assumption | (go_size; done) | (simp; omega) | (simp only [World.size_alloc]; omega))).trans (by first | assumption | (go_cell; done) | (go_simp; done) | simp [*]); have b0_0bs : w0.heap.size < w1.heap.size := Nat.lt_of_lt_of_le (by first | assumption | (go_size; done) | (simp; omega) | (simp only [World.size_alloc]; omega)) hb.size
      have b0_1b0 : w1.cell? ⟨w0.heap.size + 1, 0, none⟩ = some (.int .i64 (p)) := (hb.cell (p := ⟨w0.heap.size + 1, 0, none⟩) (by first | assumption | (go_size; done) | (simp; omega) | (simp only [World.size_alloc]; omega))).trans (by first | assumption | (go_cell; done) | (go_simp; done) | simp [*]); have b0_1b1 : w1.cell? ⟨w0.heap.size + 1, 1, none⟩ = some (.int .i64 (q)) := (hb.cell (p := ⟨w0.heap.size + 1, 1, none⟩) (by first | assumption | (go_size; done) | (simp; omega) | (simp only [World.size_alloc]; omega))).trans (by first | assumption | (go_cell; done) | (go_simp; done) | simp [*]); have b0_1bs : w0.heap.size + 1 < w1.heap.size := Nat.lt_of_lt_of_le (by first | assumption | (go_size; done) | (simp; omega) | (simp only [World.size_alloc]; omega)) hb.size
      clear hb hA0 
      go_wp2_with fail
      refine Calls.mono (H2.out _) ?_
      rintro e w2 ⟨rfl, hb⟩
      have hA2 : Below w.heap.size w w2 := belowTo (by have := hA1.size; go_grown) hb
      have b0_0c0 : w2.cell? ⟨w0.heap.size, 0, none⟩ = some (.int .i64 (x)) := (hb.cell (p := ⟨w0.heap.size, 0, none⟩) (by first | assumption | (go_size; done) | (simp; omega) | (simp only [World.size_alloc]; omega))).trans (by first | assumption | (go_cell; done) | (go_simp; done) | simp [*]); have b0_0c1 : w2.cell? ⟨w0.heap.size, 1, none⟩ = some (.int .i64 (y)) := (hb.cell (p := ⟨w0.heap.size, 1, none⟩) (by first | assumption | (go_size; done) | (simp; omega) | (simp only [World.size_alloc]; omega))).trans (by first | assumption | (go_cell; done) | (go_simp; done) | simp [*]); have b0_0c2 : w2.cell? ⟨w0.heap.size, 2, none⟩ = some (.int .i64 (z)) := (hb.cell (p := ⟨w0.heap.size, 2, none⟩) (by first | assumption | (go_size; done) | (simp; omega) | (simp only [World.size_alloc]; omega))).trans (by first | assumption | (go_cell; done) | (go_simp; done) | simp [*]); have b0_0c3 : w2.cell? ⟨w0.heap.size, 3, none⟩ = some (.int .i64 (u)) := (hb.cell (p := ⟨w0.heap.size, 3, none⟩) (by first | assumption | (go_size; done) | (simp; omega) | (simp only [World.size_alloc]; omega))).trans (by first | assumption | (go_cell; done) | (go_simp; done) | simp [*]); have b0_0cs : w0.heap.size < w2.heap.size := Nat.lt_of_lt_of_le (by first | assumption | (go_size; done) | (simp; omega) | (simp only [World.size_alloc]; omega)) hb.size
      have b0_1c0 : w2.cell? ⟨w0.heap.size + 1, 0, none⟩ = some (.int .i64 (p)) := (hb.cell (p := ⟨w0.heap.size + 1, 0, none⟩) (by first | assumption | (go_size; done) | (simp; omega) | (simp only [World.size_alloc]; omega))).trans (by first | assumption | (go_cell; done) | (go_simp; done) | simp [*]); have b0_1c1 : w2.cell? ⟨w0.heap.size + 1, 1, none⟩ = some (.int .i64 (q)) := (hb.cell (p := ⟨w0.heap.size + 1, 1, none⟩) (by first | assumption | (go_size; done) | (simp; omega) | (simp only [World.size_alloc]; omega))).trans (by first | assumption | (go_cell; done) | (go_simp; done) | simp [*]); have b0_1cs : w0.heap.size + 1 < w2.heap.size := Nat.lt_of_lt_of_le (by first | assumption | (go_size; done) | (simp; omega) | (simp only [World.size_alloc]; omega)) hb.size
      have b1_0c0 : w2.cell? ⟨w1.heap.size, 0, none⟩ = some (.int .i64 (0)) := (hb.cell (p := ⟨w1.heap.size, 0, none⟩) (by first | assumption | (go_size; done) | (simp; omega) | (simp only [World.size_alloc]; omega))).trans (by first | assumption | (go_cell; done) | (go_simp; done) | simp [*]); have b1_0c1 : w2.cell? ⟨w1.heap.size, 1, none⟩ = some (.int .i64 (0)) := (hb.cell (p := ⟨w1.heap.size, 1, none⟩) (by first | assumption | (go_size; done) | (simp; omega) | (simp only [World.size_alloc]; omega))).trans (by first | assumption | (go_cell; done) | (go_simp; done) | simp [*]); have b1_0cs : w1.heap.size < w2.heap.size := Nat.lt_of_lt_of_le (by first | assumption | (go_size; done) | (simp; omega) | (simp only [World.size_alloc]; omega)) hb.size
      clear hb hA1 b0_0b0 b0_0b1 b0_0b2 b0_0b3 b0_0bs b0_1b0 b0_1b1 b0_1bs
      have hs2 := hA2.size
      go_wp2
      go_returns
      exact ⟨by simp, by go_grown⟩
    case true =>
      have H1 : Hid (∀ w' (hg' : EtOk w'), Calls Tryd.prog 20 #[.agg #[.int .i64 (x), .int .i64 (y), .int .i64 (z), .int .i64 (u)], .agg #[.int .i64 (p), .int .i64 (q)]] w' fun e w2 => e = .returned (.tuple #[.agg #[.int .i64 (moveX x y p q), .int .i64 (moveX z u p q)], .bool true]) ∧ Below w'.heap.size w' w2) := fun w' hg' => giv (matMove_any x y z u p q w' hg') (by rw [k]; rfl)
      have H2 : Hid (∀ w', Calls Tryd.prog 21 #[.agg #[.int .i64 (x), .int .i64 (y), .int .i64 (z), .int .i64 (u)], .agg #[.int .i64 (p), .int .i64 (q)]] w' fun e w2 => e = .returned (.tuple #[.agg #[.int .i64 (moveX x y p q), .int .i64 (moveX z u p q)], .bool true]) ∧ Below w'.heap.size w' w2) := fun w' => giv (specMatMove_any x y z u p q w') (by rw [k]; rfl)
      obtain ⟨k1, k2, k3⟩ := move_in k
      have kb := (turned_back k1).1
      obtain ⟨b1, b2⟩ := moved_back (p := p) (q := q) k1
      obtain ⟨g1, g2⟩ := moved_prim k
      have H3 : Hid (∀ w' (hg' : EtOk w'), Calls Tryd.prog 22 #[.agg #[.int .i64 (x), .int .i64 (y), .int .i64 (z), .int .i64 (u)]] w' fun e w2 => e = .returned (.tuple #[.agg #[.int .i64 (detM x y z u * u), .int .i64 (-(detM x y z u * y)), .int .i64 (-(detM x y z u * z)), .int .i64 (detM x y z u * x)], .bool true]) ∧ Below w'.heap.size w' w2) := fun w' hg' => giv (matTurned_any x y z u w' hg') (by rw [k1]; rfl)
      have H4 : Hid (∀ w' (hg' : EtOk w'), Calls Tryd.prog 20 #[.agg #[.int .i64 (detM x y z u * u), .int .i64 (-(detM x y z u * y)), .int .i64 (-(detM x y z u * z)), .int .i64 (detM x y z u * x)], .agg #[.int .i64 (moveX x y p q), .int .i64 (moveX z u p q)]] w' fun e w2 => e = .returned (.tuple #[.agg #[.int .i64 (p), .int .i64 (q)], .bool true]) ∧ Below w'.heap.size w' w2) := fun w' hg' => giv (matMove_any (detM x y z u * u) (-(detM x y z u * y)) (-(detM x y z u * z)) (detM x y z u * x) (moveX x y p q) (moveX z u p q) w' hg') (by unfold moveOk; rw [kb, k3, b1, b2, k2]; rfl)
      have H5 : Hid (∀ w' (hg' : EtOk w'), Calls Tryd.prog 23 #[.agg #[.int .i64 (p), .int .i64 (q)]] w' fun e w2 => e = .returned (.tuple #[.agg #[.int .i64 (gate (primOk p q) (p.tdiv (gcdZ p q))), .int .i64 (gate (primOk p q) (q.tdiv (gcdZ p q)))], .int .i64 (gate (primOk p q) (gcdZ p q)), .bool (primOk p q)]) ∧ Below w'.heap.size w' w2) := fun w' hg' => giv (vecPrimitive_any p q w' hg') (rfl)
      have H6 : Hid (∀ w' (hg' : EtOk w'), Calls Tryd.prog 23 #[.agg #[.int .i64 (moveX x y p q), .int .i64 (moveX z u p q)]] w' fun e w2 => e = .returned (.tuple #[.agg #[.int .i64 (gate (primOk p q) ((moveX x y p q).tdiv (gcdZ p q))), .int .i64 (gate (primOk p q) ((moveX z u p q).tdiv (gcdZ p q)))], .int .i64 (gate (primOk p q) (gcdZ p q)), .bool (primOk p q)]) ∧ Below w'.heap.size w' w2) := fun w' hg' => giv (vecPrimitive_any (moveX x y p q) (moveX z u p q) w' hg') (by rw [g1, g2])
      clear kb b1 b2 g1 g2 k1 k2 k3 k
      generalize detM x y z u * u = r1 at *
      generalize -(detM x y z u * y) = r2 at *
      generalize -(detM x y z u * z) = r3 at *
      generalize detM x y z u * x = r4 at *
      generalize gate (primOk p q) ((moveX x y p q).tdiv (gcdZ p q)) = d1 at *
      generalize gate (primOk p q) ((moveX z u p q).tdiv (gcdZ p q)) = d2 at *
      generalize gate (primOk p q) (p.tdiv (gcdZ p q)) = d3 at *
      generalize gate (primOk p q) (q.tdiv (gcdZ p q)) = d4 at *
      generalize gate (primOk p q) (gcdZ p q) = g at *
      generalize primOk p q = b at *
      generalize moveX x y p q = X at *
      generalize moveX z u p q = Y at *
      go_wp2_with fail
      refine Calls.mono (H1.out _ (HG.out.below (by have := hA0.size; go_grown))) ?_
      rintro e w1 ⟨rfl, hb⟩
      have hA1 : Below w.heap.size w w1 := belowTo (by have := hA0.size; go_grown) hb
      have b0_0b0 : w1.cell? ⟨w0.heap.size, 0, none⟩ = some (.int .i64 (x)) := (hb.cell (p := ⟨w0.heap.size, 0, none⟩) (by first | assumption | (go_size; done) | (simp; omega) | (simp only [World.size_alloc]; omega))).trans (by first | assumption | (go_cell; done) | (go_simp; done) | simp [*]); have b0_0b1 : w1.cell? ⟨w0.heap.size, 1, none⟩ = some (.int .i64 (y)) := (hb.cell (p := ⟨w0.heap.size, 1, none⟩) (by first | assumption | (go_size; done) | (simp; omega) | (simp only [World.size_alloc]; omega))).trans (by first | assumption | (go_cell; done) | (go_simp; done) | simp [*]); have b0_0b2 : w1.cell? ⟨w0.heap.size, 2, none⟩ = some (.int .i64 (z)) := (hb.cell (p := ⟨w0.heap.size, 2, none⟩) (by first | assumption | (go_size; done) | (simp; omega) | (simp only [World.size_alloc]; omega))).trans (by first | assumption | (go_cell; done) | (go_simp; done) | simp [*]); have b0_0b3 : w1.cell? ⟨w0.heap.size, 3, none⟩ = some (.int .i64 (u)) := (hb.cell (p := ⟨w0.heap.size, 3, none⟩) (by first | assumption | (go_size; done) | (simp; omega) | (simp only [World.size_alloc]; omega))).trans (by first | assumption | (go_cell; done) | (go_simp; done) | simp [*]); have b0_0bs : w0.heap.size < w1.heap.size := Nat.lt_of_lt_of_le (by first | assumption | (go_size; done) | (simp; omega) | (simp only [World.size_alloc]; omega)) hb.size
      have b0_1b0 : w1.cell? ⟨w0.heap.size + 1, 0, none⟩ = some (.int .i64 (p)) := (hb.cell (p := ⟨w0.heap.size + 1, 0, none⟩) (by first | assumption | (go_size; done) | (simp; omega) | (simp only [World.size_alloc]; omega))).trans (by first | assumption | (go_cell; done) | (go_simp; done) | simp [*]); have b0_1b1 : w1.cell? ⟨w0.heap.size + 1, 1, none⟩ = some (.int .i64 (q)) := (hb.cell (p := ⟨w0.heap.size + 1, 1, none⟩) (by first | assumption | (go_size; done) | (simp; omega) | (simp only [World.size_alloc]; omega))).trans (by first | assumption | (go_cell; done) | (go_simp; done) | simp [*]); have b0_1bs : w0.heap.size + 1 < w1.heap.size := Nat.lt_of_lt_of_le (by first | assumption | (go_size; done) | (simp; omega) | (simp only [World.size_alloc]; omega)) hb.size
      clear hb hA0 
      go_wp2_with fail
      refine Calls.mono (H2.out _) ?_
      rintro e w2 ⟨rfl, hb⟩
      have hA2 : Below w.heap.size w w2 := belowTo (by have := hA1.size; go_grown) hb
      have b0_0c0 : w2.cell? ⟨w0.heap.size, 0, none⟩ = some (.int .i64 (x)) := (hb.cell (p := ⟨w0.heap.size, 0, none⟩) (by first | assumption | (go_size; done) | (simp; omega) | (simp only [World.size_alloc]; omega))).trans (by first | assumption | (go_cell; done) | (go_simp; done) | simp [*]); have b0_0c1 : w2.cell? ⟨w0.heap.size, 1, none⟩ = some (.int .i64 (y)) := (hb.cell (p := ⟨w0.heap.size, 1, none⟩) (by first | assumption | (go_size; done) | (simp; omega) | (simp only [World.size_alloc]; omega))).trans (by first | assumption | (go_cell; done) | (go_simp; done) | simp [*]); have b0_0c2 : w2.cell? ⟨w0.heap.size, 2, none⟩ = some (.int .i64 (z)) := (hb.cell (p := ⟨w0.heap.size, 2, none⟩) (by first | assumption | (go_size; done) | (simp; omega) | (simp only [World.size_alloc]; omega))).trans (by first | assumption | (go_cell; done) | (go_simp; done) | simp [*]); have b0_0c3 : w2.cell? ⟨w0.heap.size, 3, none⟩ = some (.int .i64 (u)) := (hb.cell (p := ⟨w0.heap.size, 3, none⟩) (by first | assumption | (go_size; done) | (simp; omega) | (simp only [World.size_alloc]; omega))).trans (by first | assumption | (go_cell; done) | (go_simp; done) | simp [*]); have b0_0cs : w0.heap.size < w2.heap.size := Nat.lt_of_lt_of_le (by first | assumption | (go_size; done) | (simp; omega) | (simp only [World.size_alloc]; omega)) hb.size
      have b0_1c0 : w2.cell? ⟨w0.heap.size + 1, 0, none⟩ = some (.int .i64 (p)) := (hb.cell (p := ⟨w0.heap.size + 1, 0, none⟩) (by first | assumption | (go_size; done) | (simp; omega) | (simp only [World.size_alloc]; omega))).trans (by first | assumption | (go_cell; done) | (go_simp; done) | simp [*]); have b0_1c1 : w2.cell? ⟨w0.heap.size + 1, 1, none⟩ = some (.int .i64 (q)) := (hb.cell (p := ⟨w0.heap.size + 1, 1, none⟩) (by first | assumption | (go_size; done) | (simp; omega) | (simp only [World.size_alloc]; omega))).trans (by first | assumption | (go_cell; done) | (go_simp; done) | simp [*]); have b0_1cs : w0.heap.size + 1 < w2.heap.size := Nat.lt_of_lt_of_le (by first | assumption | (go_size; done) | (simp; omega) | (simp only [World.size_alloc]; omega)) hb.size
      have b1_0c0 : w2.cell? ⟨w1.heap.size, 0, none⟩ = some (.int .i64 (X)) := (hb.cell (p := ⟨w1.heap.size, 0, none⟩) (by first | assumption | (go_size; done) | (simp; omega) | (simp only [World.size_alloc]; omega))).trans (by first | assumption | (go_cell; done) | (go_simp; done) | simp [*]); have b1_0c1 : w2.cell? ⟨w1.heap.size, 1, none⟩ = some (.int .i64 (Y)) := (hb.cell (p := ⟨w1.heap.size, 1, none⟩) (by first | assumption | (go_size; done) | (simp; omega) | (simp only [World.size_alloc]; omega))).trans (by first | assumption | (go_cell; done) | (go_simp; done) | simp [*]); have b1_0cs : w1.heap.size < w2.heap.size := Nat.lt_of_lt_of_le (by first | assumption | (go_size; done) | (simp; omega) | (simp only [World.size_alloc]; omega)) hb.size
      clear hb hA1 b0_0b0 b0_0b1 b0_0b2 b0_0b3 b0_0bs b0_1b0 b0_1b1 b0_1bs
      go_wp2_with fail
      refine Calls.mono (H3.out _ (HG.out.below (by have := hA2.size; go_grown))) ?_
      rintro e w3 ⟨rfl, hb⟩
      have hA3 : Below w.heap.size w w3 := belowTo (by have := hA2.size; go_grown) hb
      have b0_0d0 : w3.cell? ⟨w0.heap.size, 0, none⟩ = some (.int .i64 (x)) := (hb.cell (p := ⟨w0.heap.size, 0, none⟩) (by first | assumption | (go_size; done) | (simp; omega) | (simp only [World.size_alloc]; omega))).trans (by first | assumption | (go_cell; done) | (go_simp; done) | simp [*]); have b0_0d1 : w3.cell? ⟨w0.heap.size, 1, none⟩ = some (.int .i64 (y)) := (hb.cell (p := ⟨w0.heap.size, 1, none⟩) (by first | assumption | (go_size; done) | (simp; omega) | (simp only [World.size_alloc]; omega))).trans (by first | assumption | (go_cell; done) | (go_simp; done) | simp [*]); have b0_0d2 : w3.cell? ⟨w0.heap.size, 2, none⟩ = some (.int .i64 (z)) := (hb.cell (p := ⟨w0.heap.size, 2, none⟩) (by first | assumption | (go_size; done) | (simp; omega) | (simp only [World.size_alloc]; omega))).trans (by first | assumption | (go_cell; done) | (go_simp; done) | simp [*]); have b0_0d3 : w3.cell? ⟨w0.heap.size, 3, none⟩ = some (.int .i64 (u)) := (hb.cell (p := ⟨w0.heap.size, 3, none⟩) (by first | assumption | (go_size; done) | (simp; omega) | (simp only [World.size_alloc]; omega))).trans (by first | assumption | (go_cell; done) | (go_simp; done) | simp [*]); have b0_0ds : w0.heap.size < w3.heap.size := Nat.lt_of_lt_of_le (by first | assumption | (go_size; done) | (simp; omega) | (simp only [World.size_alloc]; omega)) hb.size
      have b0_1d0 : w3.cell? ⟨w0.heap.size + 1, 0, none⟩ = some (.int .i64 (p)) := (hb.cell (p := ⟨w0.heap.size + 1, 0, none⟩) (by first | assumption | (go_size; done) | (simp; omega) | (simp only [World.size_alloc]; omega))).trans (by first | assumption | (go_cell; done) | (go_simp; done) | simp [*]); have b0_1d1 : w3.cell? ⟨w0.heap.size + 1, 1, none⟩ = some (.int .i64 (q)) := (hb.cell (p := ⟨w0.heap.size + 1, 1, none⟩) (by first | assumption | (go_size; done) | (simp; omega) | (simp only [World.size_alloc]; omega))).trans (by first | assumption | (go_cell; done) | (go_simp; done) | simp [*]); have b0_1ds : w0.heap.size + 1 < w3.heap.size := Nat.lt_of_lt_of_le (by first | assumption | (go_size; done) | (simp; omega) | (simp only [World.size_alloc]; omega)) hb.size
      have b1_0d0 : w3.cell? ⟨w1.heap.size, 0, none⟩ = some (.int .i64 (X)) := (hb.cell (p := ⟨w1.heap.size, 0, none⟩) (by first | assumption | (go_size; done) | (simp; omega) | (simp only [World.size_alloc]; omega))).trans (by first | assumption | (go_cell; done) | (go_simp; done) | simp [*]); have b1_0d1 : w3.cell? ⟨w1.heap.size, 1, none⟩ = some (.int .i64 (Y)) := (hb.cell (p := ⟨w1.heap.size, 1, none⟩) (by first | assumption | (go_size; done) | (simp; omega) | (simp only [World.size_alloc]; omega))).trans (by first | assumption | (go_cell; done) | (go_simp; done) | simp [*]); have b1_0ds : w1.heap.size < w3.heap.size := Nat.lt_of_lt_of_le (by first | assumption | (go_size; done) | (simp; omega) | (simp only [World.size_alloc]; omega)) hb.size
      clear hb hA2 b0_0c0 b0_0c1 b0_0c2 b0_0c3 b0_0cs b0_1c0 b0_1c1 b0_1cs b1_0c0 b1_0c1 b1_0cs
      go_wp2_with fail
      refine Calls.mono (H4.out _ (HG.out.below (by have := hA3.size; go_grown))) ?_
      rintro e w4 ⟨rfl, hb⟩
      have hA4 : Below w.heap.size w w4 := belowTo (by have := hA3.size; go_grown) hb
      have b0_0e0 : w4.cell? ⟨w0.heap.size, 0, none⟩ = some (.int .i64 (x)) := (hb.cell (p := ⟨w0.heap.size, 0, none⟩) (by first | assumption | (go_size; done) | (simp; omega) | (simp only [World.size_alloc]; omega))).trans (by first | assumption | (go_cell; done) | (go_simp; done) | simp [*]); have b0_0e1 : w4.cell? ⟨w0.heap.size, 1, none⟩ = some (.int .i64 (y)) := (hb.cell (p := ⟨w0.heap.size, 1, none⟩) (by first | assumption | (go_size; done) | (simp; omega) | (simp only [World.size_alloc]; omega))).trans (by first | assumption | (go_cell; done) | (go_simp; done) | simp [*]); have b0_0e2 : w4.cell? ⟨w0.heap.size, 2, none⟩ = some (.int .i64 (z)) := (hb.cell (p := ⟨w0.heap.size, 2, none⟩) (by first | assumption | (go_size; done) | (simp; omega) | (simp only [World.size_alloc]; omega))).trans (by first | assumption | (go_cell; done) | (go_simp; done) | simp [*]); have b0_0e3 : w4.cell? ⟨w0.heap.size, 3, none⟩ = some (.int .i64 (u)) := (hb.cell (p := ⟨w0.heap.size, 3, none⟩) (by first | assumption | (go_size; done) | (simp; omega) | (simp only [World.size_alloc]; omega))).trans (by first | assumption | (go_cell; done) | (go_simp; done) | simp [*]); have b0_0es : w0.heap.size < w4.heap.size := Nat.lt_of_lt_of_le (by first | assumption | (go_size; done) | (simp; omega) | (simp only [World.size_alloc]; omega)) hb.size
      have b0_1e0 : w4.cell? ⟨w0.heap.size + 1, 0, none⟩ = some (.int .i64 (p)) := (hb.cell (p := ⟨w0.heap.size + 1, 0, none⟩) (by first | assumption | (go_size; done) | (simp; omega) | (simp only [World.size_alloc]; omega))).trans (by first | assumption | (go_cell; done) | (go_simp; done) | simp [*]); have b0_1e1 : w4.cell? ⟨w0.heap.size + 1, 1, none⟩ = some (.int .i64 (q)) := (hb.cell (p := ⟨w0.heap.size + 1, 1, none⟩) (by first | assumption | (go_size; done) | (simp; omega) | (simp only [World.size_alloc]; omega))).trans (by first | assumption | (go_cell; done) | (go_simp; done) | simp [*]); have b0_1es : w0.heap.size + 1 < w4.heap.size := Nat.lt_of_lt_of_le (by first | assumption | (go_size; done) | (simp; omega) | (simp only [World.size_alloc]; omega)) hb.size
      have b1_0e0 : w4.cell? ⟨w1.heap.size, 0, none⟩ = some (.int .i64 (X)) := (hb.cell (p := ⟨w1.heap.size, 0, none⟩) (by first | assumption | (go_size; done) | (simp; omega) | (simp only [World.size_alloc]; omega))).trans (by first | assumption | (go_cell; done) | (go_simp; done) | simp [*]); have b1_0e1 : w4.cell? ⟨w1.heap.size, 1, none⟩ = some (.int .i64 (Y)) := (hb.cell (p := ⟨w1.heap.size, 1, none⟩) (by first | assumption | (go_size; done) | (simp; omega) | (simp only [World.size_alloc]; omega))).trans (by first | assumption | (go_cell; done) | (go_simp; done) | simp [*]); have b1_0es : w1.heap.size < w4.heap.size := Nat.lt_of_lt_of_le (by first | assumption | (go_size; done) | (simp; omega) | (simp only [World.size_alloc]; omega)) hb.size
      clear hb hA3 b0_0d0 b0_0d1 b0_0d2 b0_0d3 b0_0ds b0_1d0 b0_1d1 b0_1ds b1_0d0 b1_0d1 b1_0ds
      go_wp2_with fail
      refine Calls.mono (H5.out _ (HG.out.below (by have := hA4.size; go_grown))) ?_
      rintro e w5 ⟨rfl, hb⟩
      have hA5 : Below w.heap.size w w5 := belowTo (by have := hA4.size; go_grown) hb
      have b0_0f0 : w5.cell? ⟨w0.heap.size, 0, none⟩ = some (.int .i64 (x)) := (hb.cell (p := ⟨w0.heap.size, 0, none⟩) (by first | assumption | (go_size; done) | (simp; omega) | (simp only [World.size_alloc]; omega))).trans (by first | assumption | (go_cell; done) | (go_simp; done) | simp [*]); have b0_0f1 : w5.cell? ⟨w0.heap.size, 1, none⟩ = some (.int .i64 (y)) := (hb.cell (p := ⟨w0.heap.size, 1, none⟩) (by first | assumption | (go_size; done) | (simp; omega) | (simp only [World.size_alloc]; omega))).trans (by first | assumption | (go_cell; done) | (go_simp; done) | simp [*]); have b0_0f2 : w5.cell? ⟨w0.heap.size, 2, none⟩ = some (.int .i64 (z)) := (hb.cell (p := ⟨w0.heap.size, 2, none⟩) (by first | assumption | (go_size; done) | (simp; omega) | (simp only [World.size_alloc]; omega))).trans (by first | assumption | (go_cell; done) | (go_simp; done) | simp [*]); have b0_0f3 : w5.cell? ⟨w0.heap.size, 3, none⟩ = some (.int .i64 (u)) := (hb.cell (p := ⟨w0.heap.size, 3, none⟩) (by first | assumption | (go_size; done) | (simp; omega) | (simp only [World.size_alloc]; omega))).trans (by first | assumption | (go_cell; done) | (go_simp; done) | simp [*]); have b0_0fs : w0.heap.size < w5.heap.size := Nat.lt_of_lt_of_le (by first | assumption | (go_size; done) | (simp; omega) | (simp only [World.size_alloc]; omega)) hb.size
      have b0_1f0 : w5.cell? ⟨w0.heap.size + 1, 0, none⟩ = some (.int .i64 (p)) := (hb.cell (p := ⟨w0.heap.size + 1, 0, none⟩) (by first | assumption | (go_size; done) | (simp; omega) | (simp only [World.size_alloc]; omega))).trans (by first | assumption | (go_cell; done) | (go_simp; done) | simp [*]); have b0_1f1 : w5.cell? ⟨w0.heap.size + 1, 1, none⟩ = some (.int .i64 (q)) := (hb.cell (p := ⟨w0.heap.size + 1, 1, none⟩) (by first | assumption | (go_size; done) | (simp; omega) | (simp only [World.size_alloc]; omega))).trans (by first | assumption | (go_cell; done) | (go_simp; done) | simp [*]); have b0_1fs : w0.heap.size + 1 < w5.heap.size := Nat.lt_of_lt_of_le (by first | assumption | (go_size; done) | (simp; omega) | (simp only [World.size_alloc]; omega)) hb.size
      have b1_0f0 : w5.cell? ⟨w1.heap.size, 0, none⟩ = some (.int .i64 (X)) := (hb.cell (p := ⟨w1.heap.size, 0, none⟩) (by first | assumption | (go_size; done) | (simp; omega) | (simp only [World.size_alloc]; omega))).trans (by first | assumption | (go_cell; done) | (go_simp; done) | simp [*]); have b1_0f1 : w5.cell? ⟨w1.heap.size, 1, none⟩ = some (.int .i64 (Y)) := (hb.cell (p := ⟨w1.heap.size, 1, none⟩) (by first | assumption | (go_size; done) | (simp; omega) | (simp only [World.size_alloc]; omega))).trans (by first | assumption | (go_cell; done) | (go_simp; done) | simp [*]); have b1_0fs : w1.heap.size < w5.heap.size := Nat.lt_of_lt_of_le (by first | assumption | (go_size; done) | (simp; omega) | (simp only [World.size_alloc]; omega)) hb.size
      have b4_0f0 : w5.cell? ⟨w4.heap.size, 0, none⟩ = some (.int .i64 (p)) := (hb.cell (p := ⟨w4.heap.size, 0, none⟩) (by first | assumption | (go_size; done) | (simp; omega) | (simp only [World.size_alloc]; omega))).trans (by first | assumption | (go_cell; done) | (go_simp; done) | simp [*]); have b4_0f1 : w5.cell? ⟨w4.heap.size, 1, none⟩ = some (.int .i64 (q)) := (hb.cell (p := ⟨w4.heap.size, 1, none⟩) (by first | assumption | (go_size; done) | (simp; omega) | (simp only [World.size_alloc]; omega))).trans (by first | assumption | (go_cell; done) | (go_simp; done) | simp [*]); have b4_0fs : w4.heap.size < w5.heap.size := Nat.lt_of_lt_of_le (by first | assumption | (go_size; done) | (simp; omega) | (simp only [World.size_alloc]; omega)) hb.size
      clear hb hA4 b0_0e0 b0_0e1 b0_0e2 b0_0e3 b0_0es b0_1e0 b0_1e1 b0_1es b1_0e0 b1_0e1 b1_0es
      go_wp2_with fail
      refine Calls.mono (H6.out _ (HG.out.below (by have := hA5.size; go_grown))) ?_
      rintro e w6 ⟨rfl, hb⟩
      have hA6 : Below w.heap.size w w6 := belowTo (by have := hA5.size; go_grown) hb
      have b0_0g0 : w6.cell? ⟨w0.heap.size, 0, none⟩ = some (.int .i64 (x)) := (hb.cell (p := ⟨w0.heap.size, 0, none⟩) (by first | assumption | (go_size; done) | (simp; omega) | (simp only [World.size_alloc]; omega))).trans (by first | assumption | (go_cell; done) | (go_simp; done) | simp [*]); have b0_0g1 : w6.cell? ⟨w0.heap.size, 1, none⟩ = some (.int .i64 (y)) := (hb.cell (p := ⟨w0.heap.size, 1, none⟩) (by first | assumption | (go_size; done) | (simp; omega) | (simp only [World.size_alloc]; omega))).trans (by first | assumption | (go_cell; done) | (go_simp; done) | simp [*]); have b0_0g2 : w6.cell? ⟨w0.heap.size, 2, none⟩ = some (.int .i64 (z)) := (hb.cell (p := ⟨w0.heap.size, 2, none⟩) (by first | assumption | (go_size; done) | (simp; omega) | (simp only [World.size_alloc]; omega))).trans (by first | assumption | (go_cell; done) | (go_simp; done) | simp [*]); have b0_0g3 : w6.cell? ⟨w0.heap.size, 3, none⟩ = some (.int .i64 (u)) := (hb.cell (p := ⟨w0.heap.size, 3, none⟩) (by first | assumption | (go_size; done) | (simp; omega) | (simp only [World.size_alloc]; omega))).trans (by first | assumption | (go_cell; done) | (go_simp; done) | simp [*]); have b0_0gs : w0.heap.size < w6.heap.size := Nat.lt_of_lt_of_le (by first | assumption | (go_size; done) | (simp; omega) | (simp only [World.size_alloc]; omega)) hb.size
      have b0_1g0 : w6.cell? ⟨w0.heap.size + 1, 0, none⟩ = some (.int .i64 (p)) := (hb.cell (p := ⟨w0.heap.size + 1, 0, none⟩) (by first | assumption | (go_size; done) | (simp; omega) | (simp only [World.size_alloc]; omega))).trans (by first | assumption | (go_cell; done) | (go_simp; done) | simp [*]); have b0_1g1 : w6.cell? ⟨w0.heap.size + 1, 1, none⟩ = some (.int .i64 (q)) := (hb.cell (p := ⟨w0.heap.size + 1, 1, none⟩) (by first | assumption | (go_size; done) | (simp; omega) | (simp only [World.size_alloc]; omega))).trans (by first | assumption | (go_cell; done) | (go_simp; done) | simp [*]); have b0_1gs : w0.heap.size + 1 < w6.heap.size := Nat.lt_of_lt_of_le (by first | assumption | (go_size; done) | (simp; omega) | (simp only [World.size_alloc]; omega)) hb.size
      have b1_0g0 : w6.cell? ⟨w1.heap.size, 0, none⟩ = some (.int .i64 (X)) := (hb.cell (p := ⟨w1.heap.size, 0, none⟩) (by first | assumption | (go_size; done) | (simp; omega) | (simp only [World.size_alloc]; omega))).trans (by first | assumption | (go_cell; done) | (go_simp; done) | simp [*]); have b1_0g1 : w6.cell? ⟨w1.heap.size, 1, none⟩ = some (.int .i64 (Y)) := (hb.cell (p := ⟨w1.heap.size, 1, none⟩) (by first | assumption | (go_size; done) | (simp; omega) | (simp only [World.size_alloc]; omega))).trans (by first | assumption | (go_cell; done) | (go_simp; done) | simp [*]); have b1_0gs : w1.heap.size < w6.heap.size := Nat.lt_of_lt_of_le (by first | assumption | (go_size; done) | (simp; omega) | (simp only [World.size_alloc]; omega)) hb.size
      have b4_0g0 : w6.cell? ⟨w4.heap.size, 0, none⟩ = some (.int .i64 (p)) := (hb.cell (p := ⟨w4.heap.size, 0, none⟩) (by first | assumption | (go_size; done) | (simp; omega) | (simp only [World.size_alloc]; omega))).trans (by first | assumption | (go_cell; done) | (go_simp; done) | simp [*]); have b4_0g1 : w6.cell? ⟨w4.heap.size, 1, none⟩ = some (.int .i64 (q)) := (hb.cell (p := ⟨w4.heap.size, 1, none⟩) (by first | assumption | (go_size; done) | (simp; omega) | (simp only [World.size_alloc]; omega))).trans (by first | assumption | (go_cell; done) | (go_simp; done) | simp [*]); have b4_0gs : w4.heap.size < w6.heap.size := Nat.lt_of_lt_of_le (by first | assumption | (go_size; done) | (simp; omega) | (simp only [World.size_alloc]; omega)) hb.size
      clear hb hA5 b0_0f0 b0_0f1 b0_0f2 b0_0f3 b0_0fs b0_1f0 b0_1f1 b0_1fs b1_0f0 b1_0f1 b1_0fs b4_0f0 b4_0f1 b4_0fs
      have hs6 := hA6.size
      cases b
      all_goals
        go_wp2
        go_returns
        exact ⟨by simp, by go_grown⟩
end Go.Proofs.YtcieihbknfeddaaDoor
