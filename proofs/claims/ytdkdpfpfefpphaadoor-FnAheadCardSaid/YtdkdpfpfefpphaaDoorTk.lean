import Derived.Test.YtdkdpfpfefpphaaDoorTh
import Derived.Deep.RegionHeld3
import Derived.Deep.DeepCutAuto
namespace Go.Proofs.YtdkdpfpfefpphaaDoor
open Go.RowKit

/-! VecAhead -/
def backB (x y : Int) : Bool := decide (y < 0) || (decide (y = 0) && decide (x < 0))
def frontB (x y : Int) : Bool := decide (0 < y) || (decide (y = 0) && decide (0 < x))
theorem front_back {x y : Int} (h : nzB x y = true) : frontB x y = !backB x y := by
  have h' : ¬ (x = 0 ∧ y = 0) := by rintro ⟨rfl, rfl⟩; simp [nzB] at h
  rw [Bool.eq_iff_iff]
  simp [frontB, backB]
  omega
def halfN (x y : Int) : Int := if frontB x y then 0 else 1
/-- the order of two directions that are not 0 -/
def aheadB (x1 y1 x2 y2 : Int) : Bool := if backB x1 y1 == backB x2 y2 then decide (0 < detZ x1 y1 x2 y2) else backB x2 y2
def aheadOk (x1 y1 x2 y2 : Int) : Bool := twoOk x1 y1 x2 y2 && (nzB x1 y1 && (nzB x2 y2 && aheadB x1 y1 x2 y2))

set_option maxHeartbeats 1000000 in
theorem inSecondHalf_any (x y : Int) (w : World) :
    Calls Tryd.prog 70 #[.agg #[.int .i64 (x), .int .i64 (y)]] w fun e w' => e = .returned (.bool (backB x y)) ∧ Below w.heap.size w w' := by
  go_enter Tryd.func70, Tryd.ntmps70
  go_wp2
  all_goals go_returns
  all_goals refine ⟨?_, by go_grown⟩
  all_goals (refine ret_bool ?_; rw [Bool.eq_iff_iff]; simp [backB]; try omega)
set_option maxHeartbeats 1000000 in
theorem l1Half_any (x y : Int) (w : World) :
    Calls Tryd.prog 71 #[.agg #[.int .i64 (x), .int .i64 (y)]] w fun e w' => e = .returned (.int .i64 (halfN x y)) ∧ Below w.heap.size w w' := by
  go_enter Tryd.func71, Tryd.ntmps71
  go_wp2
  all_goals go_returns
  all_goals refine ⟨?_, by go_grown⟩
  all_goals (refine ret_int ?_; unfold halfN; simp [frontB]; try omega)

set_option maxHeartbeats 2000000 in
theorem ahead_any (x1 y1 x2 y2 : Int) (w : World) (h1 : vecB x1 y1 = true) (h2 : vecB x2 y2 = true) :
    Calls Tryd.prog 45 #[.agg #[.int .i64 (x1), .int .i64 (y1)], .agg #[.int .i64 (x2), .int .i64 (y2)]] w fun e w' => e = .returned (.bool (aheadB x1 y1 x2 y2)) ∧ Below w.heap.size w w' := by
  unfold aheadB
  cases k1 : backB x1 y1 <;> cases k2 : backB x2 y2
  all_goals
    go_enter Tryd.func45, Tryd.ntmps45
    go_upto_region 1 with fail
    obtain ⟨W0, hW⟩ : ∃ W9, W9 = (w.alloc (.cells #[.int .i64 x1, .int .i64 y1] 24)).alloc (.cells #[.int .i64 x2, .int .i64 y2] 24) := ⟨_, rfl⟩; have c0 : W0.cell? ⟨w.heap.size, 0, none⟩ = some (.int .i64 (x1)) := (by rw [hW]; simp); have c1 : W0.cell? ⟨w.heap.size, 1, none⟩ = some (.int .i64 (y1)) := (by rw [hW]; simp); have c2 : W0.cell? ⟨w.heap.size + 1, 0, none⟩ = some (.int .i64 (x2)) := (by rw [hW]; simp); have c3 : W0.cell? ⟨w.heap.size + 1, 1, none⟩ = some (.int .i64 (y2)) := (by rw [hW]; simp); have hB0 : Below w.heap.size w W0 := (by rw [hW]; go_grown); have hs0 : w.heap.size < W0.heap.size := (by rw [hW]; simp only [World.size_alloc]; omega); have hs1 : w.heap.size + 1 < W0.heap.size := (by rw [hW]; simp only [World.size_alloc]; omega); rw [← hW]; clear hW
    go_region_held3 (fun w' => w'.cell? ⟨w.heap.size, 0, none⟩ = some (.int .i64 (x1)) ∧ w'.cell? ⟨w.heap.size, 1, none⟩ = some (.int .i64 (y1)) ∧ w'.cell? ⟨w.heap.size + 1, 0, none⟩ = some (.int .i64 (x2)) ∧ w'.cell? ⟨w.heap.size + 1, 1, none⟩ = some (.int .i64 (y2)) ∧ Below W0.heap.size W0 w') ((refine (fun hS => ⟨(hS.cell (p := ⟨w.heap.size, 0, none⟩) hs0).trans c0, (hS.cell (p := ⟨w.heap.size, 1, none⟩) hs0).trans c1, (hS.cell (p := ⟨w.heap.size + 1, 0, none⟩) hs1).trans c2, (hS.cell (p := ⟨w.heap.size + 1, 1, none⟩) hs1).trans c3, hS⟩) (?_ : Below W0.heap.size W0 _); first | (go_grown; done))) (first | (go_at_call 70; go_call (inSecondHalf_any _ _ _) as e w1 ⟨rfl, hb0⟩; have hT : Below W0.heap.size W0 w1 := belowTo (by go_split_ands; assumption) hb0; have hTs := hT.size; (first | have hb1 := belowTo (by assumption) hb0 | have hb1 := hb0); obtain ⟨hc1, hf1⟩ := bcell hb1; have hz1 := bsize hb1))
    go_wp2_with fail
    first
      | (go_returns; exact ⟨rfl, belowTo hB0.drew hb1⟩)
      | (go_call (inSecondHalf_any _ _ _) as e w2 ⟨rfl, hb2⟩; go_wp2; go_returns; exact ⟨rfl, belowTo (belowTo hB0.drew hb1) hb2⟩)
      | (go_call (det_any x1 y1 x2 y2 _ h1 h2) as e w2 ⟨rfl, hb2⟩; go_wp2; go_returns; exact ⟨rfl, belowTo (belowTo hB0.drew hb1) hb2⟩)

theorem half_back {x y : Int} (h : nzB x y = true) (k : backB x y = true) : halfN x y = 1 := by
  unfold halfN
  rw [front_back h, k]; rfl
theorem half_front {x y : Int} (h : nzB x y = true) (k : backB x y = false) : halfN x y = 0 := by
  unfold halfN
  rw [front_back h, k]; rfl
theorem half_is {x y : Int} (h : nzB x y = true) : (backB x y = true ∧ halfN x y = 1) ∨ (backB x y = false ∧ halfN x y = 0) := by
  cases k : backB x y
  · exact .inr ⟨rfl, half_front h k⟩
  · exact .inl ⟨rfl, half_back h k⟩
theorem nz_cases {x y : Int} (h : nzB x y = true) : (x == 0) = false ∨ ((x == 0) = true ∧ (y == 0) = false) := by
  cases hx : (x == 0) <;> cases hy : (y == 0) <;> simp [nzB, hx, hy] at h ⊢
theorem z_cases {x y : Int} (h : nzB x y = false) : (x == 0) = true ∧ (y == 0) = true := by
  cases hx : (x == 0) <;> cases hy : (y == 0) <;> simp [nzB, hx, hy] at h ⊢

set_option maxHeartbeats 4000000 in
theorem l1Ahead_any (x1 y1 x2 y2 : Int) (w : World) (h1 : vecB x1 y1 = true) (h2 : vecB x2 y2 = true) (n1 : nzB x1 y1 = true) (n2 : nzB x2 y2 = true) :
    Calls Tryd.prog 46 #[.agg #[.int .i64 (x1), .int .i64 (y1)], .agg #[.int .i64 (x2), .int .i64 (y2)]] w fun e w' => e = .returned (.bool (aheadB x1 y1 x2 y2)) ∧ Below w.heap.size w w' := by
  unfold aheadB
  rcases half_is n1 with ⟨k1, e1⟩ | ⟨k1, e1⟩ <;> rcases half_is n2 with ⟨k2, e2⟩ | ⟨k2, e2⟩
  all_goals
    rw [k1, k2]
    go_enter Tryd.func46, Tryd.ntmps46
    go_upto_region 1 with fail
    obtain ⟨W0, hW⟩ : ∃ W9, W9 = (w.alloc (.cells #[.int .i64 x1, .int .i64 y1] 24)).alloc (.cells #[.int .i64 x2, .int .i64 y2] 24) := ⟨_, rfl⟩; have c0 : W0.cell? ⟨w.heap.size, 0, none⟩ = some (.int .i64 (x1)) := (by rw [hW]; simp); have c1 : W0.cell? ⟨w.heap.size, 1, none⟩ = some (.int .i64 (y1)) := (by rw [hW]; simp); have c2 : W0.cell? ⟨w.heap.size + 1, 0, none⟩ = some (.int .i64 (x2)) := (by rw [hW]; simp); have c3 : W0.cell? ⟨w.heap.size + 1, 1, none⟩ = some (.int .i64 (y2)) := (by rw [hW]; simp); have hB0 : Below w.heap.size w W0 := (by rw [hW]; go_grown); have hs0 : w.heap.size < W0.heap.size := (by rw [hW]; simp only [World.size_alloc]; omega); have hs1 : w.heap.size + 1 < W0.heap.size := (by rw [hW]; simp only [World.size_alloc]; omega); rw [← hW]; clear hW
    go_region_held3 (fun w' => w'.cell? ⟨w.heap.size, 0, none⟩ = some (.int .i64 (x1)) ∧ w'.cell? ⟨w.heap.size, 1, none⟩ = some (.int .i64 (y1)) ∧ w'.cell? ⟨w.heap.size + 1, 0, none⟩ = some (.int .i64 (x2)) ∧ w'.cell? ⟨w.heap.size + 1, 1, none⟩ = some (.int .i64 (y2)) ∧ Below W0.heap.size W0 w') ((refine (fun hS => ⟨(hS.cell (p := ⟨w.heap.size, 0, none⟩) hs0).trans c0, (hS.cell (p := ⟨w.heap.size, 1, none⟩) hs0).trans c1, (hS.cell (p := ⟨w.heap.size + 1, 0, none⟩) hs1).trans c2, (hS.cell (p := ⟨w.heap.size + 1, 1, none⟩) hs1).trans c3, hS⟩) (?_ : Below W0.heap.size W0 _); first | (go_grown; done))) (first | (go_at_call 71; go_call (l1Half_any _ _ _) as e w1 ⟨rfl, hb0⟩; have hT : Below W0.heap.size W0 w1 := belowTo (by go_split_ands; assumption) hb0; have hTs := hT.size; (first | have hb1 := belowTo (by assumption) hb0 | have hb1 := hb0); obtain ⟨hc1, hf1⟩ := bcell hb1; have hz1 := bsize hb1))
    all_goals go_wp2_with fail
    all_goals first
      | (go_call (l1Det_any x1 y1 x2 y2 _ h1 h2) as e w2 ⟨rfl, hb2⟩; go_wp2; go_returns; exact ⟨rfl, belowTo (belowTo hB0 hT) hb2⟩)
      | (go_region_held3 (fun w' => w'.cell? ⟨w.heap.size, 0, none⟩ = some (.int .i64 (x1)) ∧ w'.cell? ⟨w.heap.size, 1, none⟩ = some (.int .i64 (y1)) ∧ w'.cell? ⟨w.heap.size + 1, 0, none⟩ = some (.int .i64 (x2)) ∧ w'.cell? ⟨w.heap.size + 1, 1, none⟩ = some (.int .i64 (y2)) ∧ Below W0.heap.size W0 w') ((refine (fun hS => ⟨(hS.cell (p := ⟨w.heap.size, 0, none⟩) hs0).trans c0, (hS.cell (p := ⟨w.heap.size, 1, none⟩) hs0).trans c1, (hS.cell (p := ⟨w.heap.size + 1, 0, none⟩) hs1).trans c2, (hS.cell (p := ⟨w.heap.size + 1, 1, none⟩) hs1).trans c3, hS⟩) (?_ : Below W0.heap.size W0 _); first | (go_grown; done))) (first | (go_at_call 71; go_call (l1Half_any _ _ _) as e w1 ⟨rfl, hb0⟩; have hT : Below W0.heap.size W0 w1 := belowTo (by go_split_ands; assumption) hb0; have hTs := hT.size; (first | have hb1 := belowTo (by assumption) hb0 | have hb1 := hb0); obtain ⟨hc1, hf1⟩ := bcell hb1; have hz1 := bsize hb1)); all_goals (go_wp2; go_returns; exact ⟨rfl, belowTo hB0 hT⟩))

set_option maxHeartbeats 4000000 in
theorem vecAhead_any (x1 y1 x2 y2 : Int) (w : World) (hg : EtOk w) :
    Calls Tryd.prog 16 #[.agg #[.int .i64 (x1), .int .i64 (y1)], .agg #[.int .i64 (x2), .int .i64 (y2)]] w fun e w' => e = .returned (.bool (aheadOk x1 y1 x2 y2)) ∧ Below w.heap.size w w' := by
  unfold aheadOk
  cases h : twoOk x1 y1 x2 y2
  · go_enter Tryd.func16, Tryd.ntmps16
    (go_wp2_with fail; go_call (checkAll_vv_out x1 y1 x2 y2 _ _ h) as e w1 ⟨rfl, hb1⟩); obtain ⟨hc1, hf1⟩ := bcell hb1; have hz1 := bsize hb1
    (go_wp2_with fail; go_call (none_hit _ _ (hg.below (belowTo (a := w) (by go_grown) hb1))) as e w2 ⟨rfl, hb2⟩); replace hb1 := belowTo hb1 hb2; clear hb2 hc1 hf1 hz1; obtain ⟨hc1, hf1⟩ := bcell hb1; have hz1 := bsize hb1
    go_wp2
    go_returns
    exact ⟨rfl, belowTo (by go_grown) hb1⟩
  · have h12 : vecB x1 y1 = true ∧ vecB x2 y2 = true := by simpa [twoOk] using h
    obtain ⟨h1, h2⟩ := h12
    clear h
    cases n1 : nzB x1 y1
    · obtain ⟨z1, z2⟩ := z_cases n1
      go_enter Tryd.func16, Tryd.ntmps16
      (go_wp2_with fail; go_call (checkAll_vv_in x1 y1 x2 y2 _ _ h1 h2) as e w1 ⟨rfl, hb1⟩); obtain ⟨hc1, hf1⟩ := bcell hb1; have hz1 := bsize hb1
      (go_wp2_with fail; go_call (none_nil _) as e w2 ⟨rfl, hb2⟩); replace hb1 := belowTo hb1 hb2; clear hb2 hc1 hf1 hz1; obtain ⟨hc1, hf1⟩ := bcell hb1; have hz1 := bsize hb1
      go_wp2
      go_returns
      exact ⟨rfl, belowTo (by go_grown) hb1⟩
    · cases n2 : nzB x2 y2
      · obtain ⟨z1, z2⟩ := z_cases n2
        rcases nz_cases n1 with u1 | ⟨u1, u2⟩
        all_goals
          go_enter Tryd.func16, Tryd.ntmps16
          (go_wp2_with fail; go_call (checkAll_vv_in x1 y1 x2 y2 _ _ h1 h2) as e w1 ⟨rfl, hb1⟩); obtain ⟨hc1, hf1⟩ := bcell hb1; have hz1 := bsize hb1
          (go_wp2_with fail; go_call (none_nil _) as e w2 ⟨rfl, hb2⟩); replace hb1 := belowTo hb1 hb2; clear hb2 hc1 hf1 hz1; obtain ⟨hc1, hf1⟩ := bcell hb1; have hz1 := bsize hb1
          go_wp2
          go_returns
          exact ⟨rfl, belowTo (by go_grown) hb1⟩
      · rcases nz_cases n1 with u1 | ⟨u1, u2⟩ <;> rcases nz_cases n2 with v1 | ⟨v1, v2⟩
        all_goals
          go_enter Tryd.func16, Tryd.ntmps16
          (go_wp2_with fail; go_call (checkAll_vv_in x1 y1 x2 y2 _ _ h1 h2) as e w1 ⟨rfl, hb1⟩); obtain ⟨hc1, hf1⟩ := bcell hb1; have hz1 := bsize hb1
          (go_wp2_with fail; go_call (none_nil _) as e w2 ⟨rfl, hb2⟩); replace hb1 := belowTo hb1 hb2; clear hb2 hc1 hf1 hz1; obtain ⟨hc1, hf1⟩ := bcell hb1; have hz1 := bsize hb1
          (go_wp2_with fail; go_call (ahead_any x1 y1 x2 y2 _ h1 h2) as e w2 ⟨rfl, hb2⟩); replace hb1 := belowTo hb1 hb2; clear hb2 hc1 hf1 hz1; obtain ⟨hc1, hf1⟩ := bcell hb1; have hz1 := bsize hb1
          go_wp2
          go_returns
          exact ⟨rfl, belowTo (by go_grown) hb1⟩

set_option maxHeartbeats 4000000 in
theorem specVecAhead_any (x1 y1 x2 y2 : Int) (w : World) :
    Calls Tryd.prog 17 #[.agg #[.int .i64 (x1), .int .i64 (y1)], .agg #[.int .i64 (x2), .int .i64 (y2)]] w fun e w' => e = .returned (.bool (aheadOk x1 y1 x2 y2)) ∧ Below w.heap.size w w' := by
  unfold aheadOk twoOk
  cases h1 : vecB x1 y1
  · go_enter Tryd.func17, Tryd.ntmps17
    (go_wp2_with fail; go_call (specVecIn_any x1 y1 _) as e w1 ⟨rfl, hb1⟩); obtain ⟨hc1, hf1⟩ := bcell hb1; have hz1 := bsize hb1
    go_wp2
    go_returns
    exact ⟨rfl, belowTo (by go_grown) hb1⟩
  · cases h2 : vecB x2 y2
    · go_enter Tryd.func17, Tryd.ntmps17
      (go_wp2_with fail; go_call (specVecIn_any x1 y1 _) as e w1 ⟨rfl, hb1⟩); obtain ⟨hc1, hf1⟩ := bcell hb1; have hz1 := bsize hb1
      (go_wp2_with fail; go_call (specVecIn_any x2 y2 _) as e w2 ⟨rfl, hb2⟩); replace hb1 := belowTo hb1 hb2; clear hb2 hc1 hf1 hz1; obtain ⟨hc1, hf1⟩ := bcell hb1; have hz1 := bsize hb1
      go_wp2
      go_returns
      exact ⟨rfl, belowTo (by go_grown) hb1⟩
    · cases n1 : nzB x1 y1
      · obtain ⟨z1, z2⟩ := z_cases n1
        go_enter Tryd.func17, Tryd.ntmps17
        (go_wp2_with fail; go_call (specVecIn_any x1 y1 _) as e w1 ⟨rfl, hb1⟩); obtain ⟨hc1, hf1⟩ := bcell hb1; have hz1 := bsize hb1
        (go_wp2_with fail; go_call (specVecIn_any x2 y2 _) as e w2 ⟨rfl, hb2⟩); replace hb1 := belowTo hb1 hb2; clear hb2 hc1 hf1 hz1; obtain ⟨hc1, hf1⟩ := bcell hb1; have hz1 := bsize hb1
        go_wp2
        go_returns
        exact ⟨rfl, belowTo (by go_grown) hb1⟩
      · cases n2 : nzB x2 y2
        · obtain ⟨z1, z2⟩ := z_cases n2
          rcases nz_cases n1 with u1 | ⟨u1, u2⟩
          all_goals
            go_enter Tryd.func17, Tryd.ntmps17
            (go_wp2_with fail; go_call (specVecIn_any x1 y1 _) as e w1 ⟨rfl, hb1⟩); obtain ⟨hc1, hf1⟩ := bcell hb1; have hz1 := bsize hb1
            (go_wp2_with fail; go_call (specVecIn_any x2 y2 _) as e w2 ⟨rfl, hb2⟩); replace hb1 := belowTo hb1 hb2; clear hb2 hc1 hf1 hz1; obtain ⟨hc1, hf1⟩ := bcell hb1; have hz1 := bsize hb1
            go_wp2
            go_returns
            exact ⟨rfl, belowTo (by go_grown) hb1⟩
        · rcases nz_cases n1 with u1 | ⟨u1, u2⟩ <;> rcases nz_cases n2 with v1 | ⟨v1, v2⟩
          all_goals
            go_enter Tryd.func17, Tryd.ntmps17
            (go_wp2_with fail; go_call (specVecIn_any x1 y1 _) as e w1 ⟨rfl, hb1⟩); obtain ⟨hc1, hf1⟩ := bcell hb1; have hz1 := bsize hb1
            (go_wp2_with fail; go_call (specVecIn_any x2 y2 _) as e w2 ⟨rfl, hb2⟩); replace hb1 := belowTo hb1 hb2; clear hb2 hc1 hf1 hz1; obtain ⟨hc1, hf1⟩ := bcell hb1; have hz1 := bsize hb1
            (go_wp2_with fail; go_call (l1Ahead_any x1 y1 x2 y2 _ h1 h2 n1 n2) as e w2 ⟨rfl, hb2⟩); replace hb1 := belowTo hb1 hb2; clear hb2 hc1 hf1 hz1; obtain ⟨hc1, hf1⟩ := bcell hb1; have hz1 := bsize hb1
            go_wp2
            go_returns
            exact ⟨rfl, belowTo (by go_grown) hb1⟩
end Go.Proofs.YtdkdpfpfefpphaaDoor
