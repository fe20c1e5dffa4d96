import Derived.Test.YtncjidkgbfilkaaDoorCb
import Derived.Deep.RegionHeld3
import Derived.Deep.DeepCutAuto
namespace Go.Proofs.YtncjidkgbfilkaaDoor
open Go.RowKit

set_option maxHeartbeats 4000000 in
theorem exactConeIn_any (a b c d : Int) (w : World) (hg : EtOk w) :
    Calls Tryd.prog 3 #[.agg #[.int .i64 (a), .int .i64 (b), .int .i64 (c), .int .i64 (d)]] w fun e w' => e = .returned (.bool true) ∧ Below w.heap.size w w' := by
  go_enter Tryd.func3, Tryd.ntmps3
  go_upto_region 1 with fail
  obtain ⟨W0, hW0⟩ : ∃ W0, W0 = (w.alloc (.cells #[.int .i64 a, .int .i64 b, .int .i64 c, .int .i64 d] 25)) := ⟨_, rfl⟩
  have c0 : W0.cell? ⟨w.heap.size, 0, none⟩ = some (.int .i64 a) := by rw [hW0]; simp
  have c1 : W0.cell? ⟨w.heap.size, 1, none⟩ = some (.int .i64 b) := by rw [hW0]; simp
  have c2 : W0.cell? ⟨w.heap.size, 2, none⟩ = some (.int .i64 c) := by rw [hW0]; simp
  have c3 : W0.cell? ⟨w.heap.size, 3, none⟩ = some (.int .i64 d) := by rw [hW0]; simp
  have hB0 : Below w.heap.size w W0 := by rw [hW0]; go_grown
  have hs0 : w.heap.size < W0.heap.size := by rw [hW0]; simp only [World.size_alloc]; omega
  rw [← hW0]
  clear hW0
  go_cut [3] (fun s3 wx => s3 = .bool (coneB a b c d) ∧ Below W0.heap.size W0 wx)
  case first =>
    go_wp2_with fail
    go_call (toCone_any _ _ _ _ _) as e w1 ⟨rfl, hb1⟩
    obtain ⟨hc1, hf1⟩ := bcell hb1; have hz1 := bsize hb1
    go_wp2_with fail
    go_call (specConeIn_any _ _ _ _ _) as e w2 ⟨rfl, hb2⟩
    replace hb1 := belowTo hb1 hb2; clear hb2 hc1 hf1 hz1; obtain ⟨hc1, hf1⟩ := bcell hb1; have hz1 := bsize hb1
    all_goals (go_wp2_with fail; go_meet)
    all_goals exact ⟨rfl, by have hS1 := hb1.size; go_grown⟩
  case rest =>
    obtain ⟨W1, rfl⟩ : ∃ W1, W1 = wc := ⟨_, rfl⟩
    obtain ⟨rfl, hB1⟩ := hcut
    replace c0 := (hB1.cell (p := ⟨w.heap.size, 0, none⟩) hs0).trans c0
    replace c1 := (hB1.cell (p := ⟨w.heap.size, 1, none⟩) hs0).trans c1
    replace c2 := (hB1.cell (p := ⟨w.heap.size, 2, none⟩) hs0).trans c2
    replace c3 := (hB1.cell (p := ⟨w.heap.size, 3, none⟩) hs0).trans c3
    replace hs0 := Nat.lt_of_lt_of_le hs0 hB1.size
    replace hB0 := belowTo hB0 hB1
    clear hB1
    go_upto_region 2 with fail
    go_cut [4] (fun s4 wx => s4 = .bool (coneB a b c d) ∧ Below W1.heap.size W1 wx)
    case first =>
      go_wp2_with fail
      go_call (toCone_any _ _ _ _ _) as e w1 ⟨rfl, hb1⟩
      obtain ⟨hc1, hf1⟩ := bcell hb1; have hz1 := bsize hb1
      go_wp2_with fail
      go_call (coneIn_any _ _ _ _ _ (hg.below (belowTo hB0 hb1))) as e w2 ⟨rfl, hb2⟩
      replace hb1 := belowTo hb1 hb2; clear hb2 hc1 hf1 hz1; obtain ⟨hc1, hf1⟩ := bcell hb1; have hz1 := bsize hb1
      all_goals (go_wp2_with fail; go_meet)
      all_goals exact ⟨rfl, by have hS1 := hb1.size; go_grown⟩
    case rest =>
      obtain ⟨rfl, hB2⟩ := hcut
      replace hB0 := belowTo hB0 hB2
      go_wp2
      go_returns
      exact ⟨rfl, hB0⟩
set_option maxHeartbeats 4000000 in
theorem exactConeIndex_any (a b c d : Int) (w : World) (hg : EtOk w) :
    Calls Tryd.prog 4 #[.agg #[.int .i64 (a), .int .i64 (b), .int .i64 (c), .int .i64 (d)]] w fun e w' => e = .returned (.bool true) ∧ Below w.heap.size w w' := by
  go_enter Tryd.func4, Tryd.ntmps4
  go_upto_region 1 with fail
  obtain ⟨W0, hW0⟩ : ∃ W0, W0 = (w.alloc (.cells #[.int .i64 a, .int .i64 b, .int .i64 c, .int .i64 d] 25)) := ⟨_, rfl⟩
  have c0 : W0.cell? ⟨w.heap.size, 0, none⟩ = some (.int .i64 a) := by rw [hW0]; simp
  have c1 : W0.cell? ⟨w.heap.size, 1, none⟩ = some (.int .i64 b) := by rw [hW0]; simp
  have c2 : W0.cell? ⟨w.heap.size, 2, none⟩ = some (.int .i64 c) := by rw [hW0]; simp
  have c3 : W0.cell? ⟨w.heap.size, 3, none⟩ = some (.int .i64 d) := by rw [hW0]; simp
  have hB0 : Below w.heap.size w W0 := by rw [hW0]; go_grown
  have hs0 : w.heap.size < W0.heap.size := by rw [hW0]; simp only [World.size_alloc]; omega
  rw [← hW0]
  clear hW0
  go_cut [3, 4] (fun s3 s4 wx => s3 = .int .i64 (gate (coneB a b c d) (detZ a b c d)) ∧ s4 = .bool (coneB a b c d) ∧ Below W0.heap.size W0 wx)
  case first =>
    go_wp2_with fail
    go_call (toCone_any _ _ _ _ _) as e w1 ⟨rfl, hb1⟩
    obtain ⟨hc1, hf1⟩ := bcell hb1; have hz1 := bsize hb1
    go_wp2_with fail
    go_call (specConeIndex_any _ _ _ _ _) as e w2 ⟨rfl, hb2⟩
    replace hb1 := belowTo hb1 hb2; clear hb2 hc1 hf1 hz1; obtain ⟨hc1, hf1⟩ := bcell hb1; have hz1 := bsize hb1
    all_goals (go_wp2_with fail; go_meet)
    all_goals exact ⟨rfl, rfl, by have hS1 := hb1.size; go_grown⟩
  case rest =>
    obtain ⟨W1, rfl⟩ : ∃ W1, W1 = wc := ⟨_, rfl⟩
    obtain ⟨rfl, rfl, hB1⟩ := hcut
    replace c0 := (hB1.cell (p := ⟨w.heap.size, 0, none⟩) hs0).trans c0
    replace c1 := (hB1.cell (p := ⟨w.heap.size, 1, none⟩) hs0).trans c1
    replace c2 := (hB1.cell (p := ⟨w.heap.size, 2, none⟩) hs0).trans c2
    replace c3 := (hB1.cell (p := ⟨w.heap.size, 3, none⟩) hs0).trans c3
    replace hs0 := Nat.lt_of_lt_of_le hs0 hB1.size
    replace hB0 := belowTo hB0 hB1
    clear hB1
    go_upto_region 2 with fail
    go_cut [5, 6] (fun s5 s6 wx => s5 = .int .i64 (gate (coneB a b c d) (detZ a b c d)) ∧ s6 = .bool (coneB a b c d) ∧ Below W1.heap.size W1 wx)
    case first =>
      go_wp2_with fail
      go_call (toCone_any _ _ _ _ _) as e w1 ⟨rfl, hb1⟩
      obtain ⟨hc1, hf1⟩ := bcell hb1; have hz1 := bsize hb1
      go_wp2_with fail
      go_call (coneIndex_any _ _ _ _ _ (hg.below (belowTo hB0 hb1))) as e w2 ⟨rfl, hb2⟩
      replace hb1 := belowTo hb1 hb2; clear hb2 hc1 hf1 hz1; obtain ⟨hc1, hf1⟩ := bcell hb1; have hz1 := bsize hb1
      all_goals (go_wp2_with fail; go_meet)
      all_goals exact ⟨rfl, rfl, by have hS1 := hb1.size; go_grown⟩
    case rest =>
      obtain ⟨rfl, rfl, hB2⟩ := hcut
      replace hB0 := belowTo hB0 hB2
      go_wp2
      go_returns
      exact ⟨rfl, hB0⟩
set_option maxHeartbeats 4000000 in
theorem exactConeHas_any (a b c d x y : Int) (w : World) (hg : EtOk w) :
    Calls Tryd.prog 5 #[.agg #[.int .i64 (a), .int .i64 (b), .int .i64 (c), .int .i64 (d)], .agg #[.int .i64 (x), .int .i64 (y)]] w fun e w' => e = .returned (.bool true) ∧ Below w.heap.size w w' := by
  go_enter Tryd.func5, Tryd.ntmps5
  go_upto_region 1 with fail
  obtain ⟨W0, hW0⟩ : ∃ W0, W0 = ((w.alloc (.cells #[.int .i64 a, .int .i64 b, .int .i64 c, .int .i64 d] 25)).alloc (.cells #[.int .i64 x, .int .i64 y] 23)) := ⟨_, rfl⟩
  have c0 : W0.cell? ⟨w.heap.size, 0, none⟩ = some (.int .i64 a) := by rw [hW0]; simp
  have c1 : W0.cell? ⟨w.heap.size, 1, none⟩ = some (.int .i64 b) := by rw [hW0]; simp
  have c2 : W0.cell? ⟨w.heap.size, 2, none⟩ = some (.int .i64 c) := by rw [hW0]; simp
  have c3 : W0.cell? ⟨w.heap.size, 3, none⟩ = some (.int .i64 d) := by rw [hW0]; simp
  have c4 : W0.cell? ⟨w.heap.size + 1, 0, none⟩ = some (.int .i64 x) := by rw [hW0]; simp
  have c5 : W0.cell? ⟨w.heap.size + 1, 1, none⟩ = some (.int .i64 y) := by rw [hW0]; simp
  have hB0 : Below w.heap.size w W0 := by rw [hW0]; go_grown
  have hs0 : w.heap.size < W0.heap.size := by rw [hW0]; simp only [World.size_alloc]; omega
  have hs1 : w.heap.size + 1 < W0.heap.size := by rw [hW0]; simp only [World.size_alloc]; omega
  rw [← hW0]
  clear hW0
  go_cut [5] (fun s5 wx => s5 = .bool (hasOk a b c d x y) ∧ Below W0.heap.size W0 wx)
  case first =>
    go_region_held3 (fun w' => w'.cell? ⟨w.heap.size, 0, none⟩ = some (.int .i64 a) ∧ w'.cell? ⟨w.heap.size, 1, none⟩ = some (.int .i64 b) ∧ w'.cell? ⟨w.heap.size, 2, none⟩ = some (.int .i64 c) ∧ w'.cell? ⟨w.heap.size, 3, none⟩ = some (.int .i64 d) ∧ w'.cell? ⟨w.heap.size + 1, 0, none⟩ = some (.int .i64 x) ∧ w'.cell? ⟨w.heap.size + 1, 1, none⟩ = some (.int .i64 y) ∧ Below W0.heap.size W0 w')
      ((refine (fun hS => ⟨(hS.cell (p := ⟨w.heap.size, 0, none⟩) hs0).trans c0, (hS.cell (p := ⟨w.heap.size, 1, none⟩) hs0).trans c1, (hS.cell (p := ⟨w.heap.size, 2, none⟩) hs0).trans c2, (hS.cell (p := ⟨w.heap.size, 3, none⟩) hs0).trans c3, (hS.cell (p := ⟨w.heap.size + 1, 0, none⟩) hs1).trans c4, (hS.cell (p := ⟨w.heap.size + 1, 1, none⟩) hs1).trans c5, hS⟩) (?_ : Below W0.heap.size W0 _); first | (go_grown; done)))
      (first | (go_at_call 12; go_call (toCone_any _ _ _ _ _) as e w1 ⟨rfl, hb0⟩; have hT : Below W0.heap.size W0 w1 := belowTo (by go_split_ands; assumption) hb0; have hTs := hT.size; (first | have hb1 := belowTo (by assumption) hb0 | have hb1 := hb0); obtain ⟨hc1, hf1⟩ := bcell hb1; have hz1 := bsize hb1) | (go_at_call 17; go_call (toVec_any _ _ _) as e w1 ⟨rfl, hb0⟩; have hT : Below W0.heap.size W0 w1 := belowTo (by go_split_ands; assumption) hb0; have hTs := hT.size; (first | have hb1 := belowTo (by assumption) hb0 | have hb1 := hb0); obtain ⟨hc1, hf1⟩ := bcell hb1; have hz1 := bsize hb1) | (go_at_call 16; go_call (specConeHas_any _ _ _ _ _ _ _) as e w1 ⟨rfl, hb0⟩; have hT : Below W0.heap.size W0 w1 := belowTo (by go_split_ands; assumption) hb0; have hTs := hT.size; (first | have hb1 := belowTo (by assumption) hb0 | have hb1 := hb0); obtain ⟨hc1, hf1⟩ := bcell hb1; have hz1 := bsize hb1))
    all_goals (go_wp2_with fail; go_meet)
    all_goals exact ⟨rfl, by go_grown⟩
  case rest =>
    obtain ⟨W1, rfl⟩ : ∃ W1, W1 = wc := ⟨_, rfl⟩
    obtain ⟨rfl, hB1⟩ := hcut
    replace c0 := (hB1.cell (p := ⟨w.heap.size, 0, none⟩) hs0).trans c0
    replace c1 := (hB1.cell (p := ⟨w.heap.size, 1, none⟩) hs0).trans c1
    replace c2 := (hB1.cell (p := ⟨w.heap.size, 2, none⟩) hs0).trans c2
    replace c3 := (hB1.cell (p := ⟨w.heap.size, 3, none⟩) hs0).trans c3
    replace c4 := (hB1.cell (p := ⟨w.heap.size + 1, 0, none⟩) hs1).trans c4
    replace c5 := (hB1.cell (p := ⟨w.heap.size + 1, 1, none⟩) hs1).trans c5
    replace hs0 := Nat.lt_of_lt_of_le hs0 hB1.size
    replace hs1 := Nat.lt_of_lt_of_le hs1 hB1.size
    replace hB0 := belowTo hB0 hB1
    clear hB1
    go_upto_region 2 with fail
    go_cut [6] (fun s6 wx => s6 = .bool (hasOk a b c d x y) ∧ Below W1.heap.size W1 wx)
    case first =>
      go_region_held3 (fun w' => w'.cell? ⟨w.heap.size, 0, none⟩ = some (.int .i64 a) ∧ w'.cell? ⟨w.heap.size, 1, none⟩ = some (.int .i64 b) ∧ w'.cell? ⟨w.heap.size, 2, none⟩ = some (.int .i64 c) ∧ w'.cell? ⟨w.heap.size, 3, none⟩ = some (.int .i64 d) ∧ w'.cell? ⟨w.heap.size + 1, 0, none⟩ = some (.int .i64 x) ∧ w'.cell? ⟨w.heap.size + 1, 1, none⟩ = some (.int .i64 y) ∧ Below W1.heap.size W1 w')
        ((refine (fun hS => ⟨(hS.cell (p := ⟨w.heap.size, 0, none⟩) hs0).trans c0, (hS.cell (p := ⟨w.heap.size, 1, none⟩) hs0).trans c1, (hS.cell (p := ⟨w.heap.size, 2, none⟩) hs0).trans c2, (hS.cell (p := ⟨w.heap.size, 3, none⟩) hs0).trans c3, (hS.cell (p := ⟨w.heap.size + 1, 0, none⟩) hs1).trans c4, (hS.cell (p := ⟨w.heap.size + 1, 1, none⟩) hs1).trans c5, hS⟩) (?_ : Below W1.heap.size W1 _); first | (go_grown; done)))
        (first | (go_at_call 12; go_call (toCone_any _ _ _ _ _) as e w1 ⟨rfl, hb0⟩; have hT : Below W1.heap.size W1 w1 := belowTo (by go_split_ands; assumption) hb0; have hTs := hT.size; (first | have hb1 := belowTo (by assumption) hb0 | have hb1 := hb0); obtain ⟨hc1, hf1⟩ := bcell hb1; have hz1 := bsize hb1) | (go_at_call 17; go_call (toVec_any _ _ _) as e w1 ⟨rfl, hb0⟩; have hT : Below W1.heap.size W1 w1 := belowTo (by go_split_ands; assumption) hb0; have hTs := hT.size; (first | have hb1 := belowTo (by assumption) hb0 | have hb1 := hb0); obtain ⟨hc1, hf1⟩ := bcell hb1; have hz1 := bsize hb1) | (go_at_call 18; go_call (coneHas_any _ _ _ _ _ _ _ (hg.below (belowTo hB0 (by go_split_ands; assumption)))) as e w1 ⟨rfl, hb0⟩; have hT : Below W1.heap.size W1 w1 := belowTo (by go_split_ands; assumption) hb0; have hTs := hT.size; (first | have hb1 := belowTo (by assumption) hb0 | have hb1 := hb0); obtain ⟨hc1, hf1⟩ := bcell hb1; have hz1 := bsize hb1))
      all_goals (go_wp2_with fail; go_meet)
      all_goals exact ⟨rfl, by go_grown⟩
    case rest =>
      obtain ⟨rfl, hB2⟩ := hcut
      replace hB0 := belowTo hB0 hB2
      go_wp2
      go_returns
      exact ⟨rfl, hB0⟩
set_option maxHeartbeats 4000000 in
theorem exactConeParts_any (a b c d x y : Int) (w : World) (hg : EtOk w) :
    Calls Tryd.prog 10 #[.agg #[.int .i64 (a), .int .i64 (b), .int .i64 (c), .int .i64 (d)], .agg #[.int .i64 (x), .int .i64 (y)]] w fun e w' => e = .returned (.bool true) ∧ Below w.heap.size w w' := by
  go_enter Tryd.func10, Tryd.ntmps10
  go_upto_region 1 with fail
  obtain ⟨W0, hW0⟩ : ∃ W0, W0 = ((w.alloc (.cells #[.int .i64 a, .int .i64 b, .int .i64 c, .int .i64 d] 25)).alloc (.cells #[.int .i64 x, .int .i64 y] 23)) := ⟨_, rfl⟩
  have c0 : W0.cell? ⟨w.heap.size, 0, none⟩ = some (.int .i64 a) := by rw [hW0]; simp
  have c1 : W0.cell? ⟨w.heap.size, 1, none⟩ = some (.int .i64 b) := by rw [hW0]; simp
  have c2 : W0.cell? ⟨w.heap.size, 2, none⟩ = some (.int .i64 c) := by rw [hW0]; simp
  have c3 : W0.cell? ⟨w.heap.size, 3, none⟩ = some (.int .i64 d) := by rw [hW0]; simp
  have c4 : W0.cell? ⟨w.heap.size + 1, 0, none⟩ = some (.int .i64 x) := by rw [hW0]; simp
  have c5 : W0.cell? ⟨w.heap.size + 1, 1, none⟩ = some (.int .i64 y) := by rw [hW0]; simp
  have hB0 : Below w.heap.size w W0 := by rw [hW0]; go_grown
  have hs0 : w.heap.size < W0.heap.size := by rw [hW0]; simp only [World.size_alloc]; omega
  have hs1 : w.heap.size + 1 < W0.heap.size := by rw [hW0]; simp only [World.size_alloc]; omega
  rw [← hW0]
  clear hW0
  go_cut [5, 6, 7] (fun s5 s6 s7 wx => s5 = .int .i64 (gate (hasOk a b c d x y) (detZ x y c d)) ∧ s6 = .int .i64 (gate (hasOk a b c d x y) (detZ a b x y)) ∧ s7 = .bool (hasOk a b c d x y) ∧ Below W0.heap.size W0 wx)
  case first =>
    go_region_held3 (fun w' => w'.cell? ⟨w.heap.size, 0, none⟩ = some (.int .i64 a) ∧ w'.cell? ⟨w.heap.size, 1, none⟩ = some (.int .i64 b) ∧ w'.cell? ⟨w.heap.size, 2, none⟩ = some (.int .i64 c) ∧ w'.cell? ⟨w.heap.size, 3, none⟩ = some (.int .i64 d) ∧ w'.cell? ⟨w.heap.size + 1, 0, none⟩ = some (.int .i64 x) ∧ w'.cell? ⟨w.heap.size + 1, 1, none⟩ = some (.int .i64 y) ∧ Below W0.heap.size W0 w')
      ((refine (fun hS => ⟨(hS.cell (p := ⟨w.heap.size, 0, none⟩) hs0).trans c0, (hS.cell (p := ⟨w.heap.size, 1, none⟩) hs0).trans c1, (hS.cell (p := ⟨w.heap.size, 2, none⟩) hs0).trans c2, (hS.cell (p := ⟨w.heap.size, 3, none⟩) hs0).trans c3, (hS.cell (p := ⟨w.heap.size + 1, 0, none⟩) hs1).trans c4, (hS.cell (p := ⟨w.heap.size + 1, 1, none⟩) hs1).trans c5, hS⟩) (?_ : Below W0.heap.size W0 _); first | (go_grown; done)))
      (first | (go_at_call 12; go_call (toCone_any _ _ _ _ _) as e w1 ⟨rfl, hb0⟩; have hT : Below W0.heap.size W0 w1 := belowTo (by go_split_ands; assumption) hb0; have hTs := hT.size; (first | have hb1 := belowTo (by assumption) hb0 | have hb1 := hb0); obtain ⟨hc1, hf1⟩ := bcell hb1; have hz1 := bsize hb1) | (go_at_call 17; go_call (toVec_any _ _ _) as e w1 ⟨rfl, hb0⟩; have hT : Below W0.heap.size W0 w1 := belowTo (by go_split_ands; assumption) hb0; have hTs := hT.size; (first | have hb1 := belowTo (by assumption) hb0 | have hb1 := hb0); obtain ⟨hc1, hf1⟩ := bcell hb1; have hz1 := bsize hb1) | (go_at_call 32; go_call (specConeParts_any _ _ _ _ _ _ _) as e w1 ⟨rfl, hb0⟩; have hT : Below W0.heap.size W0 w1 := belowTo (by go_split_ands; assumption) hb0; have hTs := hT.size; (first | have hb1 := belowTo (by assumption) hb0 | have hb1 := hb0); obtain ⟨hc1, hf1⟩ := bcell hb1; have hz1 := bsize hb1))
    all_goals (go_wp2_with fail; go_meet)
    all_goals exact ⟨rfl, rfl, rfl, by go_grown⟩
  case rest =>
    obtain ⟨W1, rfl⟩ : ∃ W1, W1 = wc := ⟨_, rfl⟩
    obtain ⟨rfl, rfl, rfl, hB1⟩ := hcut
    replace c0 := (hB1.cell (p := ⟨w.heap.size, 0, none⟩) hs0).trans c0
    replace c1 := (hB1.cell (p := ⟨w.heap.size, 1, none⟩) hs0).trans c1
    replace c2 := (hB1.cell (p := ⟨w.heap.size, 2, none⟩) hs0).trans c2
    replace c3 := (hB1.cell (p := ⟨w.heap.size, 3, none⟩) hs0).trans c3
    replace c4 := (hB1.cell (p := ⟨w.heap.size + 1, 0, none⟩) hs1).trans c4
    replace c5 := (hB1.cell (p := ⟨w.heap.size + 1, 1, none⟩) hs1).trans c5
    replace hs0 := Nat.lt_of_lt_of_le hs0 hB1.size
    replace hs1 := Nat.lt_of_lt_of_le hs1 hB1.size
    replace hB0 := belowTo hB0 hB1
    clear hB1
    go_upto_region 2 with fail
    go_cut [8, 9, 10] (fun s8 s9 s10 wx => s8 = .int .i64 (gate (hasOk a b c d x y) (detZ x y c d)) ∧ s9 = .int .i64 (gate (hasOk a b c d x y) (detZ a b x y)) ∧ s10 = .bool (hasOk a b c d x y) ∧ Below W1.heap.size W1 wx)
    case first =>
      go_region_held3 (fun w' => w'.cell? ⟨w.heap.size, 0, none⟩ = some (.int .i64 a) ∧ w'.cell? ⟨w.heap.size, 1, none⟩ = some (.int .i64 b) ∧ w'.cell? ⟨w.heap.size, 2, none⟩ = some (.int .i64 c) ∧ w'.cell? ⟨w.heap.size, 3, none⟩ = some (.int .i64 d) ∧ w'.cell? ⟨w.heap.size + 1, 0, none⟩ = some (.int .i64 x) ∧ w'.cell? ⟨w.heap.size + 1, 1, none⟩ = some (.int .i64 y) ∧ Below W1.heap.size W1 w')
        ((refine (fun hS => ⟨(hS.cell (p := ⟨w.heap.size, 0, none⟩) hs0).trans c0, (hS.cell (p := ⟨w.heap.size, 1, none⟩) hs0).trans c1, (hS.cell (p := ⟨w.heap.size, 2, none⟩) hs0).trans c2, (hS.cell (p := ⟨w.heap.size, 3, none⟩) hs0).trans c3, (hS.cell (p := ⟨w.heap.size + 1, 0, none⟩) hs1).trans c4, (hS.cell (p := ⟨w.heap.size + 1, 1, none⟩) hs1).trans c5, hS⟩) (?_ : Below W1.heap.size W1 _); first | (go_grown; done)))
        (first | (go_at_call 12; go_call (toCone_any _ _ _ _ _) as e w1 ⟨rfl, hb0⟩; have hT : Below W1.heap.size W1 w1 := belowTo (by go_split_ands; assumption) hb0; have hTs := hT.size; (first | have hb1 := belowTo (by assumption) hb0 | have hb1 := hb0); obtain ⟨hc1, hf1⟩ := bcell hb1; have hz1 := bsize hb1) | (go_at_call 17; go_call (toVec_any _ _ _) as e w1 ⟨rfl, hb0⟩; have hT : Below W1.heap.size W1 w1 := belowTo (by go_split_ands; assumption) hb0; have hTs := hT.size; (first | have hb1 := belowTo (by assumption) hb0 | have hb1 := hb0); obtain ⟨hc1, hf1⟩ := bcell hb1; have hz1 := bsize hb1) | (go_at_call 33; go_call (coneParts_any _ _ _ _ _ _ _ (hg.below (belowTo hB0 (by go_split_ands; assumption)))) as e w1 ⟨rfl, hb0⟩; have hT : Below W1.heap.size W1 w1 := belowTo (by go_split_ands; assumption) hb0; have hTs := hT.size; (first | have hb1 := belowTo (by assumption) hb0 | have hb1 := hb0); obtain ⟨hc1, hf1⟩ := bcell hb1; have hz1 := bsize hb1))
      all_goals (go_wp2_with fail; go_meet)
      all_goals exact ⟨rfl, rfl, rfl, by go_grown⟩
    case rest =>
      obtain ⟨rfl, rfl, rfl, hB2⟩ := hcut
      replace hB0 := belowTo hB0 hB2
      go_wp2
      go_returns
      exact ⟨rfl, hB0⟩
end Go.Proofs.YtncjidkgbfilkaaDoor
