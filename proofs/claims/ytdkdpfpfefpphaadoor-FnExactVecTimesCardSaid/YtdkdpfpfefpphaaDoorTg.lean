import Derived.Test.YtdkdpfpfefpphaaDoorTe
import Derived.Test.YtdkdpfpfefpphaaDoorTf
namespace Go.Proofs.YtdkdpfpfefpphaaDoor
open Go.RowKit

set_option maxHeartbeats 4000000 in
theorem exactVecTimes_any (x y n : Int) (w : World) (hg : EtOk w) :
    Calls Tryd.prog 7 #[.agg #[.int .i64 (x), .int .i64 (y)], .int .i64 n] w fun e w' => e = .returned (.bool true) ∧ Below w.heap.size w w' := by
  go_enter Tryd.func7, Tryd.ntmps7
  go_upto_region 1 with fail
  obtain ⟨W0, hW0⟩ : ∃ W0, W0 = (w.alloc (.cells #[.int .i64 x, .int .i64 y] 34)) := ⟨_, rfl⟩
  have c0 : W0.cell? ⟨w.heap.size, 0, none⟩ = some (.int .i64 x) := by rw [hW0]; simp
  have c1 : W0.cell? ⟨w.heap.size, 1, none⟩ = some (.int .i64 y) := by rw [hW0]; simp
  have hB0 : Below w.heap.size w W0 := by rw [hW0]; go_grown
  have hs0 : w.heap.size < W0.heap.size := by rw [hW0]; simp only [World.size_alloc]; omega
  rw [← hW0]
  clear hW0
  go_cut [5, 6] (fun s5 s6 wx => ∃ g5 : Nat, s5 = .pointer (some ⟨g5, 0, none⟩) ∧ s6 = .bool (timesOk x y n) ∧ wx.cell? ⟨g5, 0, none⟩ = some (.int .i64 (gate (timesOk x y n) (x * n))) ∧ wx.cell? ⟨g5, 1, none⟩ = some (.int .i64 (gate (timesOk x y n) (y * n))) ∧ g5 < wx.heap.size ∧ Below W0.heap.size W0 wx)
  case first =>
    go_wp2_with fail
    go_call (toVec_any _ _ _) as e w1 ⟨rfl, hb1⟩
    obtain ⟨hc1, hf1⟩ := bcell hb1; have hz1 := bsize hb1
    go_wp2_with fail
    go_call (specVecTimes_any _ _ _ _) as e w2 ⟨rfl, hb2⟩
    replace hb1 := belowTo hb1 hb2; clear hb2 hc1 hf1 hz1; obtain ⟨hc1, hf1⟩ := bcell hb1; have hz1 := bsize hb1
    all_goals (go_wp2_with fail; go_meet)
    all_goals exact ⟨_, rfl, rfl, by first | (go_cell; done) | (simp; done) | (simp [*]; done), by first | (go_cell; done) | (simp; done) | (simp [*]; done), by first | (go_size; done) | (simp [*]; done), by have hS1 := hb1.size; go_grown⟩
  case rest =>
    obtain ⟨W1, rfl⟩ : ∃ W1, W1 = wc := ⟨_, rfl⟩
    obtain ⟨g5, rfl, rfl, d5_0, d5_1, ld5, hB1⟩ := hcut
    replace c0 := (hB1.cell (p := ⟨w.heap.size, 0, none⟩) hs0).trans c0
    replace c1 := (hB1.cell (p := ⟨w.heap.size, 1, none⟩) hs0).trans c1
    replace hs0 := Nat.lt_of_lt_of_le hs0 hB1.size
    replace hB0 := belowTo hB0 hB1
    clear hB1
    go_upto_region 2 with fail
    go_cut [7, 8] (fun s7 s8 wx => ∃ g7 : Nat, s7 = .pointer (some ⟨g7, 0, none⟩) ∧ s8 = .bool (timesOk x y n) ∧ wx.cell? ⟨g7, 0, none⟩ = some (.int .i64 (gate (timesOk x y n) (x * n))) ∧ wx.cell? ⟨g7, 1, none⟩ = some (.int .i64 (gate (timesOk x y n) (y * n))) ∧ g7 < wx.heap.size ∧ Below W1.heap.size W1 wx)
    case first =>
      go_wp2_with fail
      go_call (toVec_any _ _ _) as e w1 ⟨rfl, hb1⟩
      obtain ⟨hc1, hf1⟩ := bcell hb1; have hz1 := bsize hb1
      go_wp2_with fail
      go_call (vecTimes_any _ _ _ _ (hg.below (belowTo hB0 hb1))) as e w2 ⟨rfl, hb2⟩
      replace hb1 := belowTo hb1 hb2; clear hb2 hc1 hf1 hz1; obtain ⟨hc1, hf1⟩ := bcell hb1; have hz1 := bsize hb1
      all_goals (go_wp2_with fail; go_meet)
      all_goals exact ⟨_, rfl, rfl, by first | (go_cell; done) | (simp; done) | (simp [*]; done), by first | (go_cell; done) | (simp; done) | (simp [*]; done), by first | (go_size; done) | (simp [*]; done), by have hS1 := hb1.size; go_grown⟩
    case rest =>
      obtain ⟨g7, rfl, rfl, e7_0, e7_1, le7, hB2⟩ := hcut
      replace d5_0 := (hB2.cell (p := ⟨g5, 0, none⟩) ld5).trans d5_0
      replace d5_1 := (hB2.cell (p := ⟨g5, 1, none⟩) ld5).trans d5_1
      replace hB0 := belowTo hB0 hB2
      go_wp2_with fail
      go_call (eqVec_same _ _ _) as e w3 ⟨rfl, hb3⟩
      go_wp2
      go_returns
      exact ⟨rfl, belowTo hB0 hb3⟩
set_option maxHeartbeats 4000000 in
theorem exactVecDet_any (x1 y1 x2 y2 : Int) (w : World) (hg : EtOk w) :
    Calls Tryd.prog 8 #[.agg #[.int .i64 (x1), .int .i64 (y1)], .agg #[.int .i64 (x2), .int .i64 (y2)]] w fun e w' => e = .returned (.bool true) ∧ Below w.heap.size w w' := by
  go_enter Tryd.func8, Tryd.ntmps8
  go_upto_region 1 with fail
  obtain ⟨W0, hW0⟩ : ∃ W0, W0 = ((w.alloc (.cells #[.int .i64 x1, .int .i64 y1] 34)).alloc (.cells #[.int .i64 x2, .int .i64 y2] 34)) := ⟨_, rfl⟩
  have c0 : W0.cell? ⟨w.heap.size, 0, none⟩ = some (.int .i64 x1) := by rw [hW0]; simp
  have c1 : W0.cell? ⟨w.heap.size, 1, none⟩ = some (.int .i64 y1) := by rw [hW0]; simp
  have c2 : W0.cell? ⟨w.heap.size + 1, 0, none⟩ = some (.int .i64 x2) := by rw [hW0]; simp
  have c3 : W0.cell? ⟨w.heap.size + 1, 1, none⟩ = some (.int .i64 y2) := by rw [hW0]; simp
  have hB0 : Below w.heap.size w W0 := by rw [hW0]; go_grown
  have hs0 : w.heap.size < W0.heap.size := by rw [hW0]; simp only [World.size_alloc]; omega
  have hs1 : w.heap.size + 1 < W0.heap.size := by rw [hW0]; simp only [World.size_alloc]; omega
  rw [← hW0]
  clear hW0
  go_cut [5, 6] (fun s5 s6 wx => s5 = .int .i64 (gate (twoOk x1 y1 x2 y2) (detZ x1 y1 x2 y2)) ∧ s6 = .bool (twoOk x1 y1 x2 y2) ∧ Below W0.heap.size W0 wx)
  case first =>
    go_region_held3 (fun w' => w'.cell? ⟨w.heap.size, 0, none⟩ = some (.int .i64 x1) ∧ w'.cell? ⟨w.heap.size, 1, none⟩ = some (.int .i64 y1) ∧ w'.cell? ⟨w.heap.size + 1, 0, none⟩ = some (.int .i64 x2) ∧ w'.cell? ⟨w.heap.size + 1, 1, none⟩ = some (.int .i64 y2) ∧ Below W0.heap.size W0 w')
      ((refine (fun hS => ⟨(hS.cell (p := ⟨w.heap.size, 0, none⟩) hs0).trans c0, (hS.cell (p := ⟨w.heap.size, 1, none⟩) hs0).trans c1, (hS.cell (p := ⟨w.heap.size + 1, 0, none⟩) hs1).trans c2, (hS.cell (p := ⟨w.heap.size + 1, 1, none⟩) hs1).trans c3, hS⟩) (?_ : Below W0.heap.size W0 _); first | (go_grown; done)))
      (first | (go_at_call 22; go_call (toVec_any _ _ _) as e w1 ⟨rfl, hb0⟩; have hT : Below W0.heap.size W0 w1 := belowTo (by go_split_ands; assumption) hb0; have hTs := hT.size; (first | have hb1 := belowTo (by assumption) hb0 | have hb1 := hb0); obtain ⟨hc1, hf1⟩ := bcell hb1; have hz1 := bsize hb1) | (go_at_call 29; go_call (specVecDet_any _ _ _ _ _) as e w1 ⟨rfl, hb0⟩; have hT : Below W0.heap.size W0 w1 := belowTo (by go_split_ands; assumption) hb0; have hTs := hT.size; (first | have hb1 := belowTo (by assumption) hb0 | have hb1 := hb0); obtain ⟨hc1, hf1⟩ := bcell hb1; have hz1 := bsize hb1))
    all_goals (go_wp2_with fail; go_meet)
    all_goals exact ⟨rfl, rfl, by go_grown⟩
  case rest =>
    obtain ⟨W1, rfl⟩ : ∃ W1, W1 = wc := ⟨_, rfl⟩
    obtain ⟨rfl, rfl, hB1⟩ := hcut
    replace c0 := (hB1.cell (p := ⟨w.heap.size, 0, none⟩) hs0).trans c0
    replace c1 := (hB1.cell (p := ⟨w.heap.size, 1, none⟩) hs0).trans c1
    replace c2 := (hB1.cell (p := ⟨w.heap.size + 1, 0, none⟩) hs1).trans c2
    replace c3 := (hB1.cell (p := ⟨w.heap.size + 1, 1, none⟩) hs1).trans c3
    replace hs0 := Nat.lt_of_lt_of_le hs0 hB1.size
    replace hs1 := Nat.lt_of_lt_of_le hs1 hB1.size
    replace hB0 := belowTo hB0 hB1
    clear hB1
    go_upto_region 2 with fail
    go_cut [7, 8] (fun s7 s8 wx => s7 = .int .i64 (gate (twoOk x1 y1 x2 y2) (detZ x1 y1 x2 y2)) ∧ s8 = .bool (twoOk x1 y1 x2 y2) ∧ Below W1.heap.size W1 wx)
    case first =>
      go_region_held3 (fun w' => w'.cell? ⟨w.heap.size, 0, none⟩ = some (.int .i64 x1) ∧ w'.cell? ⟨w.heap.size, 1, none⟩ = some (.int .i64 y1) ∧ w'.cell? ⟨w.heap.size + 1, 0, none⟩ = some (.int .i64 x2) ∧ w'.cell? ⟨w.heap.size + 1, 1, none⟩ = some (.int .i64 y2) ∧ Below W1.heap.size W1 w')
        ((refine (fun hS => ⟨(hS.cell (p := ⟨w.heap.size, 0, none⟩) hs0).trans c0, (hS.cell (p := ⟨w.heap.size, 1, none⟩) hs0).trans c1, (hS.cell (p := ⟨w.heap.size + 1, 0, none⟩) hs1).trans c2, (hS.cell (p := ⟨w.heap.size + 1, 1, none⟩) hs1).trans c3, hS⟩) (?_ : Below W1.heap.size W1 _); first | (go_grown; done)))
        (first | (go_at_call 22; go_call (toVec_any _ _ _) as e w1 ⟨rfl, hb0⟩; have hT : Below W1.heap.size W1 w1 := belowTo (by go_split_ands; assumption) hb0; have hTs := hT.size; (first | have hb1 := belowTo (by assumption) hb0 | have hb1 := hb0); obtain ⟨hc1, hf1⟩ := bcell hb1; have hz1 := bsize hb1) | (go_at_call 30; go_call (vecDet_any _ _ _ _ _ (hg.below (belowTo hB0 (by go_split_ands; assumption)))) as e w1 ⟨rfl, hb0⟩; have hT : Below W1.heap.size W1 w1 := belowTo (by go_split_ands; assumption) hb0; have hTs := hT.size; (first | have hb1 := belowTo (by assumption) hb0 | have hb1 := hb0); obtain ⟨hc1, hf1⟩ := bcell hb1; have hz1 := bsize hb1))
      all_goals (go_wp2_with fail; go_meet)
      all_goals exact ⟨rfl, rfl, by go_grown⟩
    case rest =>
      obtain ⟨rfl, rfl, hB2⟩ := hcut
      replace hB0 := belowTo hB0 hB2
      go_wp2
      go_returns
      exact ⟨rfl, hB0⟩
set_option maxHeartbeats 4000000 in
theorem exactVecProduct_any (x1 y1 x2 y2 : Int) (w : World) (hg : EtOk w) :
    Calls Tryd.prog 9 #[.agg #[.int .i64 (x1), .int .i64 (y1)], .agg #[.int .i64 (x2), .int .i64 (y2)]] w fun e w' => e = .returned (.bool true) ∧ Below w.heap.size w w' := by
  go_enter Tryd.func9, Tryd.ntmps9
  go_upto_region 1 with fail
  obtain ⟨W0, hW0⟩ : ∃ W0, W0 = ((w.alloc (.cells #[.int .i64 x1, .int .i64 y1] 34)).alloc (.cells #[.int .i64 x2, .int .i64 y2] 34)) := ⟨_, rfl⟩
  have c0 : W0.cell? ⟨w.heap.size, 0, none⟩ = some (.int .i64 x1) := by rw [hW0]; simp
  have c1 : W0.cell? ⟨w.heap.size, 1, none⟩ = some (.int .i64 y1) := by rw [hW0]; simp
  have c2 : W0.cell? ⟨w.heap.size + 1, 0, none⟩ = some (.int .i64 x2) := by rw [hW0]; simp
  have c3 : W0.cell? ⟨w.heap.size + 1, 1, none⟩ = some (.int .i64 y2) := by rw [hW0]; simp
  have hB0 : Below w.heap.size w W0 := by rw [hW0]; go_grown
  have hs0 : w.heap.size < W0.heap.size := by rw [hW0]; simp only [World.size_alloc]; omega
  have hs1 : w.heap.size + 1 < W0.heap.size := by rw [hW0]; simp only [World.size_alloc]; omega
  rw [← hW0]
  clear hW0
  go_cut [5, 6] (fun s5 s6 wx => s5 = .int .i64 (gate (twoOk x1 y1 x2 y2) (dotZ x1 y1 x2 y2)) ∧ s6 = .bool (twoOk x1 y1 x2 y2) ∧ Below W0.heap.size W0 wx)
  case first =>
    go_region_held3 (fun w' => w'.cell? ⟨w.heap.size, 0, none⟩ = some (.int .i64 x1) ∧ w'.cell? ⟨w.heap.size, 1, none⟩ = some (.int .i64 y1) ∧ w'.cell? ⟨w.heap.size + 1, 0, none⟩ = some (.int .i64 x2) ∧ w'.cell? ⟨w.heap.size + 1, 1, none⟩ = some (.int .i64 y2) ∧ Below W0.heap.size W0 w')
      ((refine (fun hS => ⟨(hS.cell (p := ⟨w.heap.size, 0, none⟩) hs0).trans c0, (hS.cell (p := ⟨w.heap.size, 1, none⟩) hs0).trans c1, (hS.cell (p := ⟨w.heap.size + 1, 0, none⟩) hs1).trans c2, (hS.cell (p := ⟨w.heap.size + 1, 1, none⟩) hs1).trans c3, hS⟩) (?_ : Below W0.heap.size W0 _); first | (go_grown; done)))
      (first | (go_at_call 22; go_call (toVec_any _ _ _) as e w1 ⟨rfl, hb0⟩; have hT : Below W0.heap.size W0 w1 := belowTo (by go_split_ands; assumption) hb0; have hTs := hT.size; (first | have hb1 := belowTo (by assumption) hb0 | have hb1 := hb0); obtain ⟨hc1, hf1⟩ := bcell hb1; have hz1 := bsize hb1) | (go_at_call 31; go_call (specVecProduct_any _ _ _ _ _) as e w1 ⟨rfl, hb0⟩; have hT : Below W0.heap.size W0 w1 := belowTo (by go_split_ands; assumption) hb0; have hTs := hT.size; (first | have hb1 := belowTo (by assumption) hb0 | have hb1 := hb0); obtain ⟨hc1, hf1⟩ := bcell hb1; have hz1 := bsize hb1))
    all_goals (go_wp2_with fail; go_meet)
    all_goals exact ⟨rfl, rfl, by go_grown⟩
  case rest =>
    obtain ⟨W1, rfl⟩ : ∃ W1, W1 = wc := ⟨_, rfl⟩
    obtain ⟨rfl, rfl, hB1⟩ := hcut
    replace c0 := (hB1.cell (p := ⟨w.heap.size, 0, none⟩) hs0).trans c0
    replace c1 := (hB1.cell (p := ⟨w.heap.size, 1, none⟩) hs0).trans c1
    replace c2 := (hB1.cell (p := ⟨w.heap.size + 1, 0, none⟩) hs1).trans c2
    replace c3 := (hB1.cell (p := ⟨w.heap.size + 1, 1, none⟩) hs1).trans c3
    replace hs0 := Nat.lt_of_lt_of_le hs0 hB1.size
    replace hs1 := Nat.lt_of_lt_of_le hs1 hB1.size
    replace hB0 := belowTo hB0 hB1
    clear hB1
    go_upto_region 2 with fail
    go_cut [7, 8] (fun s7 s8 wx => s7 = .int .i64 (gate (twoOk x1 y1 x2 y2) (dotZ x1 y1 x2 y2)) ∧ s8 = .bool (twoOk x1 y1 x2 y2) ∧ Below W1.heap.size W1 wx)
    case first =>
      go_region_held3 (fun w' => w'.cell? ⟨w.heap.size, 0, none⟩ = some (.int .i64 x1) ∧ w'.cell? ⟨w.heap.size, 1, none⟩ = some (.int .i64 y1) ∧ w'.cell? ⟨w.heap.size + 1, 0, none⟩ = some (.int .i64 x2) ∧ w'.cell? ⟨w.heap.size + 1, 1, none⟩ = some (.int .i64 y2) ∧ Below W1.heap.size W1 w')
        ((refine (fun hS => ⟨(hS.cell (p := ⟨w.heap.size, 0, none⟩) hs0).trans c0, (hS.cell (p := ⟨w.heap.size, 1, none⟩) hs0).trans c1, (hS.cell (p := ⟨w.heap.size + 1, 0, none⟩) hs1).trans c2, (hS.cell (p := ⟨w.heap.size + 1, 1, none⟩) hs1).trans c3, hS⟩) (?_ : Below W1.heap.size W1 _); first | (go_grown; done)))
        (first | (go_at_call 22; go_call (toVec_any _ _ _) as e w1 ⟨rfl, hb0⟩; have hT : Below W1.heap.size W1 w1 := belowTo (by go_split_ands; assumption) hb0; have hTs := hT.size; (first | have hb1 := belowTo (by assumption) hb0 | have hb1 := hb0); obtain ⟨hc1, hf1⟩ := bcell hb1; have hz1 := bsize hb1) | (go_at_call 32; go_call (vecProduct_any _ _ _ _ _ (hg.below (belowTo hB0 (by go_split_ands; assumption)))) as e w1 ⟨rfl, hb0⟩; have hT : Below W1.heap.size W1 w1 := belowTo (by go_split_ands; assumption) hb0; have hTs := hT.size; (first | have hb1 := belowTo (by assumption) hb0 | have hb1 := hb0); obtain ⟨hc1, hf1⟩ := bcell hb1; have hz1 := bsize hb1))
      all_goals (go_wp2_with fail; go_meet)
      all_goals exact ⟨rfl, rfl, by go_grown⟩
    case rest =>
      obtain ⟨rfl, rfl, hB2⟩ := hcut
      replace hB0 := belowTo hB0 hB2
      go_wp2
      go_returns
      exact ⟨rfl, hB0⟩
set_option maxHeartbeats 4000000 in
theorem exactVecTurn_any (x y : Int) (w : World) (hg : EtOk w) :
    Calls Tryd.prog 11 #[.agg #[.int .i64 (x), .int .i64 (y)]] w fun e w' => e = .returned (.bool true) ∧ Below w.heap.size w w' := by
  go_enter Tryd.func11, Tryd.ntmps11
  go_upto_region 1 with fail
  obtain ⟨W0, hW0⟩ : ∃ W0, W0 = (w.alloc (.cells #[.int .i64 x, .int .i64 y] 34)) := ⟨_, rfl⟩
  have c0 : W0.cell? ⟨w.heap.size, 0, none⟩ = some (.int .i64 x) := by rw [hW0]; simp
  have c1 : W0.cell? ⟨w.heap.size, 1, none⟩ = some (.int .i64 y) := by rw [hW0]; simp
  have hB0 : Below w.heap.size w W0 := by rw [hW0]; go_grown
  have hs0 : w.heap.size < W0.heap.size := by rw [hW0]; simp only [World.size_alloc]; omega
  rw [← hW0]
  clear hW0
  go_cut [3, 4] (fun s3 s4 wx => ∃ g3 : Nat, s3 = .pointer (some ⟨g3, 0, none⟩) ∧ s4 = .bool (vecB x y) ∧ wx.cell? ⟨g3, 0, none⟩ = some (.int .i64 (gate (vecB x y) (-y))) ∧ wx.cell? ⟨g3, 1, none⟩ = some (.int .i64 (gate (vecB x y) x)) ∧ g3 < wx.heap.size ∧ Below W0.heap.size W0 wx)
  case first =>
    go_wp2_with fail
    go_call (toVec_any _ _ _) as e w1 ⟨rfl, hb1⟩
    obtain ⟨hc1, hf1⟩ := bcell hb1; have hz1 := bsize hb1
    go_wp2_with fail
    go_call (specVecTurn_any _ _ _) as e w2 ⟨rfl, hb2⟩
    replace hb1 := belowTo hb1 hb2; clear hb2 hc1 hf1 hz1; obtain ⟨hc1, hf1⟩ := bcell hb1; have hz1 := bsize hb1
    all_goals (go_wp2_with fail; go_meet)
    all_goals exact ⟨_, rfl, rfl, by first | (go_cell; done) | (simp; done) | (simp [*]; done), by first | (go_cell; done) | (simp; done) | (simp [*]; done), by first | (go_size; done) | (simp [*]; done), by have hS1 := hb1.size; go_grown⟩
  case rest =>
    obtain ⟨W1, rfl⟩ : ∃ W1, W1 = wc := ⟨_, rfl⟩
    obtain ⟨g3, rfl, rfl, d3_0, d3_1, ld3, hB1⟩ := hcut
    replace c0 := (hB1.cell (p := ⟨w.heap.size, 0, none⟩) hs0).trans c0
    replace c1 := (hB1.cell (p := ⟨w.heap.size, 1, none⟩) hs0).trans c1
    replace hs0 := Nat.lt_of_lt_of_le hs0 hB1.size
    replace hB0 := belowTo hB0 hB1
    clear hB1
    go_upto_region 2 with fail
    go_cut [5, 6] (fun s5 s6 wx => ∃ g5 : Nat, s5 = .pointer (some ⟨g5, 0, none⟩) ∧ s6 = .bool (vecB x y) ∧ wx.cell? ⟨g5, 0, none⟩ = some (.int .i64 (gate (vecB x y) (-y))) ∧ wx.cell? ⟨g5, 1, none⟩ = some (.int .i64 (gate (vecB x y) x)) ∧ g5 < wx.heap.size ∧ Below W1.heap.size W1 wx)
    case first =>
      go_wp2_with fail
      go_call (toVec_any _ _ _) as e w1 ⟨rfl, hb1⟩
      obtain ⟨hc1, hf1⟩ := bcell hb1; have hz1 := bsize hb1
      go_wp2_with fail
      go_call (vecTurn_any _ _ _ (hg.below (belowTo hB0 hb1))) as e w2 ⟨rfl, hb2⟩
      replace hb1 := belowTo hb1 hb2; clear hb2 hc1 hf1 hz1; obtain ⟨hc1, hf1⟩ := bcell hb1; have hz1 := bsize hb1
      all_goals (go_wp2_with fail; go_meet)
      all_goals exact ⟨_, rfl, rfl, by first | (go_cell; done) | (simp; done) | (simp [*]; done), by first | (go_cell; done) | (simp; done) | (simp [*]; done), by first | (go_size; done) | (simp [*]; done), by have hS1 := hb1.size; go_grown⟩
    case rest =>
      obtain ⟨g5, rfl, rfl, e5_0, e5_1, le5, hB2⟩ := hcut
      replace d3_0 := (hB2.cell (p := ⟨g3, 0, none⟩) ld3).trans d3_0
      replace d3_1 := (hB2.cell (p := ⟨g3, 1, none⟩) ld3).trans d3_1
      replace hB0 := belowTo hB0 hB2
      go_wp2_with fail
      go_call (eqVec_same _ _ _) as e w3 ⟨rfl, hb3⟩
      go_wp2
      go_returns
      exact ⟨rfl, belowTo hB0 hb3⟩
end Go.Proofs.YtdkdpfpfefpphaaDoor
