import Derived.Test.YtcieihbknfeddaaB1
import Derived.Deep.RegionHeld3
import Derived.Deep.DeepCutAuto
import Derived.Handy
namespace Go.Proofs.Ytcieihbknfeddaa
open Go.RowKit

set_option maxHeartbeats 400000 in
theorem l6In_any (a lo hi : Int) (w : World) :
    Calls Try.prog 14 #[.int .i64 a, .int .i64 lo, .int .i64 hi] w fun e w' => e = .returned (.bool (decide (lo ≤ a) && decide (a ≤ hi))) ∧ w = w' := by
  go_enter Try.func14, Try.ntmps14
  go_wp2
  all_goals go_returns
  all_goals (refine ⟨ret_bool ?_, rfl⟩; rw [Bool.eq_iff_iff]; simp; try omega)
set_option maxHeartbeats 400000 in
theorem l1Size_any (a : Int) (w : World) :
    Calls Try.prog 38 #[.int .i64 a] w fun e w' => e = .returned (.bool (szB a)) ∧ w = w' := by
  unfold szB
  go_enter Try.func38, Try.ntmps38
  go_wp2_with (go_at_call 14; refine (l6In_any _ _ _ _).mono ?_; rintro e w' ⟨rfl, rfl⟩)
  go_returns
  exact ⟨rfl, rfl⟩
set_option maxHeartbeats 400000 in
theorem specVecIn_any (x y : Int) (w : World) :
    Calls Try.prog 35 #[.agg #[.int .i64 (x), .int .i64 (y)]] w fun e w' => e = .returned (.bool (vecB x y)) ∧ Below w.heap.size w w' := by
  unfold vecB
  cases hx : szB x
  all_goals
    go_enter Try.func35, Try.ntmps35
    go_wp2_with (go_at_call 38; refine (l1Size_any _ _).mono ?_; rintro e w' ⟨rfl, rfl⟩)
    go_returns
    refine ⟨by simp, ?_⟩
    go_grown
/-! the law of VecIn -/
end Go.Proofs.Ytcieihbknfeddaa

namespace Go.Proofs.Ytcieihbknfeddaa
open Go.RowKit

/-! checkAll over two vectors -/
/-! made, l1Done -/
end Go.Proofs.Ytcieihbknfeddaa

namespace Go.Proofs.Ytcieihbknfeddaa
open Go.RowKit

/-! the plain methods of vectors -/
/-! VecAdd, both sides -/
end Go.Proofs.Ytcieihbknfeddaa

namespace Go.Proofs.Ytcieihbknfeddaa
open Go.RowKit

/-! eqVec at one vector twice -/
end Go.Proofs.Ytcieihbknfeddaa

namespace Go.Proofs.Ytcieihbknfeddaa
open Go.RowKit

/-! VecTimes -/
/-! VecDet, VecProduct -/
set_option maxHeartbeats 1000000 in
theorem l1Det_any (x1 y1 x2 y2 : Int) (w : World) (h1 : vecB x1 y1 = true) (h2 : vecB x2 y2 = true) :
    Calls Try.prog 33 #[.agg #[.int .i64 (x1), .int .i64 (y1)], .agg #[.int .i64 (x2), .int .i64 (y2)]] w fun e w' => e = .returned (.int .i64 (detZ x1 y1 x2 y2)) ∧ Below w.heap.size w w' := by
  obtain ⟨a1, b1⟩ := szs h1
  obtain ⟨a2, b2⟩ := szs h2
  obtain ⟨_, _⟩ := mul_bd a1 b2
  obtain ⟨_, _⟩ := mul_bd b1 a2
  clear h1 h2 a1 b1 a2 b2
  go_enter Try.func33, Try.ntmps33
  go_wp2
  go_returns
  exact ⟨rfl, by go_grown⟩
/-! VecTurn -/
end Go.Proofs.Ytcieihbknfeddaa

namespace Go.Proofs.Ytcieihbknfeddaa
open Go.RowKit

theorem ret_int {a b : Int} (h : a = b) : Ending.returned (.int .i64 a) = .returned (.int .i64 b) := by rw [h]

set_option maxHeartbeats 1000000 in
theorem l1Gcd_big (a b : Int) (w : World) (ha : -2000000 ≤ a ∧ a ≤ 2000000) (hb : -2000000 ≤ b ∧ b ≤ 2000000) :
    Calls Try.prog 36 #[.int .i64 a, .int .i64 b] w fun e w' => e = .returned (.int .i64 (gcdZ a b)) ∧ Below w.heap.size w w' := by
  obtain ⟨_, _⟩ := ha
  obtain ⟨_, _⟩ := hb
  go_enter Try.func36, Try.ntmps36
  go_wp2
  all_goals
    go_loopw [0, 1] (fun s0 s1 wr => ∃ x y : Int, s0 = .int .i64 x ∧ s1 = .int .i64 y ∧ gcdZ x y = gcdZ a b ∧ (0 ≤ x ∧ x ≤ 2000000) ∧ (0 ≤ y ∧ y ≤ 2000000) ∧ Below w.heap.size w wr) (fun _ s1 _ => (intOf s1).natAbs)
    case atStart => exact ⟨_, _, rfl, rfl, by simp [gcdZ], by omega, by omega, by go_grown⟩
    case round =>
      obtain ⟨x, y, rfl, rfl, hgc, hx, hy, hB⟩ := hrel
      by_cases h0 : y = 0
      · subst h0
        rw [gcdZ_zero] at hgc
        have H := Lib.hid hgc
        clear hgc
        obtain ⟨_, _⟩ := hx
        go_wp2
        go_returns
        refine ⟨?_, hB⟩
        rw [← H.out]
        refine ret_int ?_
        omega
      · have hm := tmod_bd (x := x) (y := y) (n := 2000000) ⟨by omega, hx.2⟩
        have hn : 0 ≤ x.tmod y := Int.tmod_nonneg y hx.1
        have hl := tmod_lt (x := x) h0
        have HS := Lib.hid ((gcdZ_step x y).trans hgc)
        clear hgc
        have hyb : (y == 0) = false := by simpa using h0
        have hyn : (y != 0) = true := by simpa using h0
        obtain ⟨_, _⟩ := hx
        obtain ⟨_, _⟩ := hy
        have e1 : x % y = x.tmod y := (Int.tmod_eq_emod_of_nonneg (by omega)).symm
        have E1 := Lib.hid e1
        clear e1
        go_wp2
        go_roundw
        case rel => exact ⟨y, x % y, rfl, rfl, by rw [E1.out]; exact HS.out, by omega, by rw [E1.out]; omega, by go_grown⟩
        case measure => simp only [intOf]; rw [E1.out]; exact hl
theorem l1Gcd_any (a b : Int) (w : World) (ha : -1000 ≤ a ∧ a ≤ 1000) (hb : -1000 ≤ b ∧ b ≤ 1000) :
    Calls Try.prog 36 #[.int .i64 a, .int .i64 b] w fun e w' => e = .returned (.int .i64 (gcdZ a b)) ∧ Below w.heap.size w w' :=
  l1Gcd_big a b w (by omega) (by omega)
end Go.Proofs.Ytcieihbknfeddaa

namespace Go.Proofs.Ytcieihbknfeddaa
open Go.RowKit

end Go.Proofs.Ytcieihbknfeddaa

namespace Go.Proofs.Ytcieihbknfeddaa
open Go.RowKit

/-! checkAll over a matrix and a vector -/
/-! where a matrix moves a vector -/
theorem move_bd {a b x y : Int} (ha : szB a = true) (hb : szB b = true) (hx : szB x = true) (hy : szB y = true) : (-1000000 ≤ a * x ∧ a * x ≤ 1000000) ∧ (-1000000 ≤ b * y ∧ b * y ≤ 1000000) :=
  ⟨mul_bd (szB_true ha) (szB_true hx), mul_bd (szB_true hb) (szB_true hy)⟩
end Go.Proofs.Ytcieihbknfeddaa

namespace Go.Proofs.Ytcieihbknfeddaa
open Go.RowKit

/-! VecAhead -/
def backB (x y : Int) : Bool := decide (y < 0) || (decide (y = 0) && decide (x < 0))
def frontB (x y : Int) : Bool := decide (0 < y) || (decide (y = 0) && decide (0 < x))
theorem front_back {x y : Int} (h : nzB x y = true) : frontB x y = !backB x y := by
  have h' : ¬ (x = 0 ∧ y = 0) := by rintro ⟨rfl, rfl⟩; simp [nzB] at h
  rw [Bool.eq_iff_iff]
  simp [frontB, backB]
  omega
def halfN (x y : Int) : Int := if frontB x y then 0 else 1
/-- the order of two directions that are not 0 -/
def aheadB (x1 y1 x2 y2 : Int) : Bool := if backB x1 y1 == backB x2 y2 then decide (0 < detZ x1 y1 x2 y2) else backB x2 y2
def aheadOk (x1 y1 x2 y2 : Int) : Bool := twoOk x1 y1 x2 y2 && (nzB x1 y1 && (nzB x2 y2 && aheadB x1 y1 x2 y2))

set_option maxHeartbeats 1000000 in
theorem l1Half_any (x y : Int) (w : World) :
    Calls Try.prog 37 #[.agg #[.int .i64 (x), .int .i64 (y)]] w fun e w' => e = .returned (.int .i64 (halfN x y)) ∧ Below w.heap.size w w' := by
  go_enter Try.func37, Try.ntmps37
  go_wp2
  all_goals go_returns
  all_goals refine ⟨?_, by go_grown⟩
  all_goals (refine ret_int ?_; unfold halfN; simp [frontB]; try omega)

theorem half_back {x y : Int} (h : nzB x y = true) (k : backB x y = true) : halfN x y = 1 := by
  unfold halfN
  rw [front_back h, k]; rfl
theorem half_front {x y : Int} (h : nzB x y = true) (k : backB x y = false) : halfN x y = 0 := by
  unfold halfN
  rw [front_back h, k]; rfl
theorem half_is {x y : Int} (h : nzB x y = true) : (backB x y = true ∧ halfN x y = 1) ∨ (backB x y = false ∧ halfN x y = 0) := by
  cases k : backB x y
  · exact .inr ⟨rfl, half_front h k⟩
  · exact .inl ⟨rfl, half_back h k⟩
theorem nz_cases {x y : Int} (h : nzB x y = true) : (x == 0) = false ∨ ((x == 0) = true ∧ (y == 0) = false) := by
  cases hx : (x == 0) <;> cases hy : (y == 0) <;> simp [nzB, hx, hy] at h ⊢
theorem z_cases {x y : Int} (h : nzB x y = false) : (x == 0) = true ∧ (y == 0) = true := by
  cases hx : (x == 0) <;> cases hy : (y == 0) <;> simp [nzB, hx, hy] at h ⊢

set_option linter.unusedSimpArgs false in
set_option maxHeartbeats 4000000 in
theorem l1Ahead_any (x1 y1 x2 y2 : Int) (w : World) (h1 : vecB x1 y1 = true) (h2 : vecB x2 y2 = true) (n1 : nzB x1 y1 = true) (n2 : nzB x2 y2 = true) :
    Calls Try.prog 34 #[.agg #[.int .i64 (x1), .int .i64 (y1)], .agg #[.int .i64 (x2), .int .i64 (y2)]] w fun e w' => e = .returned (.bool (aheadB x1 y1 x2 y2)) ∧ Below w.heap.size w w' := by
  unfold aheadB
  rcases half_is n1 with ⟨k1, e1⟩ | ⟨k1, e1⟩ <;> rcases half_is n2 with ⟨k2, e2⟩ | ⟨k2, e2⟩
  all_goals
    rw [k1, k2]
    go_enter Try.func34, Try.ntmps34
    go_upto_region 1 with fail
    obtain ⟨W0, hW⟩ : ∃ W9, W9 = (w.alloc (.cells #[.int .i64 x1, .int .i64 y1] 51)).alloc (.cells #[.int .i64 x2, .int .i64 y2] 51) := ⟨_, rfl⟩; have c0 : W0.cell? ⟨w.heap.size, 0, none⟩ = some (.int .i64 (x1)) := (by rw [hW]; first | (simp; done) | (rw [World.cell?_alloc_lt _ _ ⟨_, _, none⟩ (by simp only [World.size_alloc]; omega)]; simp; done) | (rw [World.cell?_alloc_at _ _ _ _ (by simp only [World.size_alloc])]; simp)); have c1 : W0.cell? ⟨w.heap.size, 1, none⟩ = some (.int .i64 (y1)) := (by rw [hW]; first | (simp; done) | (rw [World.cell?_alloc_lt _ _ ⟨_, _, none⟩ (by simp only [World.size_alloc]; omega)]; simp; done) | (rw [World.cell?_alloc_at _ _ _ _ (by simp only [World.size_alloc])]; simp)); have c2 : W0.cell? ⟨w.heap.size + 1, 0, none⟩ = some (.int .i64 (x2)) := (by rw [hW]; first | (simp; done) | (rw [World.cell?_alloc_lt _ _ ⟨_, _, none⟩ (by simp only [World.size_alloc]; omega)]; simp; done) | (rw [World.cell?_alloc_at _ _ _ _ (by simp only [World.size_alloc])]; simp)); have c3 : W0.cell? ⟨w.heap.size + 1, 1, none⟩ = some (.int .i64 (y2)) := (by rw [hW]; first | (simp; done) | (rw [World.cell?_alloc_lt _ _ ⟨_, _, none⟩ (by simp only [World.size_alloc]; omega)]; simp; done) | (rw [World.cell?_alloc_at _ _ _ _ (by simp only [World.size_alloc])]; simp)); have z0 : W0.frozen? ⟨w.heap.size, 0, none⟩ = false := (by rw [hW]; first | (simp; done) | (rw [World.frozen?_alloc_old _ _ ⟨_, _, none⟩ (by simp only [World.size_alloc]; omega)]; simp; done) | (rw [World.frozen?_alloc_at _ _ _ _ (by simp only [World.size_alloc])])); have z1 : W0.frozen? ⟨w.heap.size, 1, none⟩ = false := (by rw [hW]; first | (simp; done) | (rw [World.frozen?_alloc_old _ _ ⟨_, _, none⟩ (by simp only [World.size_alloc]; omega)]; simp; done) | (rw [World.frozen?_alloc_at _ _ _ _ (by simp only [World.size_alloc])])); have z2 : W0.frozen? ⟨w.heap.size + 1, 0, none⟩ = false := (by rw [hW]; first | (simp; done) | (rw [World.frozen?_alloc_old _ _ ⟨_, _, none⟩ (by simp only [World.size_alloc]; omega)]; simp; done) | (rw [World.frozen?_alloc_at _ _ _ _ (by simp only [World.size_alloc])])); have z3 : W0.frozen? ⟨w.heap.size + 1, 1, none⟩ = false := (by rw [hW]; first | (simp; done) | (rw [World.frozen?_alloc_old _ _ ⟨_, _, none⟩ (by simp only [World.size_alloc]; omega)]; simp; done) | (rw [World.frozen?_alloc_at _ _ _ _ (by simp only [World.size_alloc])])); have hB0 : Below w.heap.size w W0 := (by rw [hW]; go_grown); have hs0 : w.heap.size < W0.heap.size := (by rw [hW]; simp only [World.size_alloc]; omega); have hs1 : w.heap.size + 1 < W0.heap.size := (by rw [hW]; simp only [World.size_alloc]; omega); rw [← hW]; clear hW
    go_region_held3 (fun w' => w'.cell? ⟨w.heap.size, 0, none⟩ = some (.int .i64 (x1)) ∧ w'.cell? ⟨w.heap.size, 1, none⟩ = some (.int .i64 (y1)) ∧ w'.cell? ⟨w.heap.size + 1, 0, none⟩ = some (.int .i64 (x2)) ∧ w'.cell? ⟨w.heap.size + 1, 1, none⟩ = some (.int .i64 (y2)) ∧ Below W0.heap.size W0 w') ((refine (fun hS => ⟨(hS.cell (p := ⟨w.heap.size, 0, none⟩) hs0).trans c0, (hS.cell (p := ⟨w.heap.size, 1, none⟩) hs0).trans c1, (hS.cell (p := ⟨w.heap.size + 1, 0, none⟩) hs1).trans c2, (hS.cell (p := ⟨w.heap.size + 1, 1, none⟩) hs1).trans c3, hS⟩) (?_ : Below W0.heap.size W0 _); first | (go_grown; done))) (first | (go_at_call 37; go_call (l1Half_any _ _ _) as e w1 ⟨rfl, hb0⟩; have hT : Below W0.heap.size W0 w1 := belowTo (by go_split_ands; assumption) hb0; have hTs := hT.size; (first | have hb1 := belowTo (by assumption) hb0 | have hb1 := hb0); obtain ⟨hc1, hf1⟩ := bcell hb1; have hz1 := bsize hb1; have hbs := hb0.size; (try simp only [World.size_alloc, World.size_drew, Nat.add_one_le_iff] at hbs); (try have t1 : W0.heap.size < w1.heap.size := (by omega)); (try have t2 : ¬ W0.heap.size = w1.heap.size := (by omega)); (try have t3 : ¬ w1.heap.size = W0.heap.size := (by omega))))
    all_goals go_wp2_with fail
    all_goals first
      | (go_call (l1Det_any x1 y1 x2 y2 _ h1 h2) as e w2 ⟨rfl, hb2⟩; go_wp2; go_returns; exact ⟨rfl, belowTo (belowTo hB0 hT) hb2⟩)
      | (go_region_held3 (fun w' => w'.cell? ⟨w.heap.size, 0, none⟩ = some (.int .i64 (x1)) ∧ w'.cell? ⟨w.heap.size, 1, none⟩ = some (.int .i64 (y1)) ∧ w'.cell? ⟨w.heap.size + 1, 0, none⟩ = some (.int .i64 (x2)) ∧ w'.cell? ⟨w.heap.size + 1, 1, none⟩ = some (.int .i64 (y2)) ∧ Below W0.heap.size W0 w') ((refine (fun hS => ⟨(hS.cell (p := ⟨w.heap.size, 0, none⟩) hs0).trans c0, (hS.cell (p := ⟨w.heap.size, 1, none⟩) hs0).trans c1, (hS.cell (p := ⟨w.heap.size + 1, 0, none⟩) hs1).trans c2, (hS.cell (p := ⟨w.heap.size + 1, 1, none⟩) hs1).trans c3, hS⟩) (?_ : Below W0.heap.size W0 _); first | (go_grown; done))) (first | (go_at_call 37; go_call (l1Half_any _ _ _) as e w1 ⟨rfl, hb0⟩; have hT : Below W0.heap.size W0 w1 := belowTo (by go_split_ands; assumption) hb0; have hTs := hT.size; (first | have hb1 := belowTo (by assumption) hb0 | have hb1 := hb0); obtain ⟨hc1, hf1⟩ := bcell hb1; have hz1 := bsize hb1; have hbs := hb0.size; (try simp only [World.size_alloc, World.size_drew, Nat.add_one_le_iff] at hbs); (try have t1 : W0.heap.size < w1.heap.size := (by omega)); (try have t2 : ¬ W0.heap.size = w1.heap.size := (by omega)); (try have t3 : ¬ w1.heap.size = W0.heap.size := (by omega)))); all_goals (go_wp2; go_returns; exact ⟨rfl, belowTo hB0 hT⟩))

end Go.Proofs.Ytcieihbknfeddaa
