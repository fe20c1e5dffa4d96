import Derived.Test.YtdkdpfpfefpphaaDoorTd
import Derived.Deep.RegionHeld3
import Derived.Deep.DeepCutAuto
namespace Go.Proofs.YtdkdpfpfefpphaaDoor
open Go.RowKit

/-! eqVec at one vector twice -/
set_option maxHeartbeats 400000 in
theorem eqVec_same (x y : Int) (w : World) :
    Calls Tryd.prog 26 #[.agg #[.int .i64 (x), .int .i64 (y)], .agg #[.int .i64 (x), .int .i64 (y)]] w fun e w' => e = .returned (.bool true) ∧ Below w.heap.size w w' := by
  go_enter Tryd.func26, Tryd.ntmps26
  go_wp2
  go_returns
  exact ⟨rfl, by go_grown⟩

set_option maxHeartbeats 4000000 in
theorem exactVecAdd_any (x1 y1 x2 y2 : Int) (w : World) (hg : EtOk w) :
    Calls Tryd.prog 6 #[.agg #[.int .i64 (x1), .int .i64 (y1)], .agg #[.int .i64 (x2), .int .i64 (y2)]] w fun e w' => e = .returned (.bool true) ∧ Below w.heap.size w w' := by
  go_enter Tryd.func6, Tryd.ntmps6
  go_upto_region 1 with fail
  obtain ⟨W0, hW0⟩ : ∃ W0, W0 = ((w.alloc (.cells #[.int .i64 x1, .int .i64 y1] 34)).alloc (.cells #[.int .i64 x2, .int .i64 y2] 34)) := ⟨_, rfl⟩
  have c0 : W0.cell? ⟨w.heap.size, 0, none⟩ = some (.int .i64 x1) := by rw [hW0]; simp
  have c1 : W0.cell? ⟨w.heap.size, 1, none⟩ = some (.int .i64 y1) := by rw [hW0]; simp
  have c2 : W0.cell? ⟨w.heap.size + 1, 0, none⟩ = some (.int .i64 x2) := by rw [hW0]; simp
  have c3 : W0.cell? ⟨w.heap.size + 1, 1, none⟩ = some (.int .i64 y2) := by rw [hW0]; simp
  have hB0 : Below w.heap.size w W0 := by rw [hW0]; go_grown
  have hs0 : w.heap.size < W0.heap.size := by rw [hW0]; simp only [World.size_alloc]; omega
  have hs1 : w.heap.size + 1 < W0.heap.size := by rw [hW0]; simp only [World.size_alloc]; omega
  rw [← hW0]
  clear hW0
  go_cut [5, 6] (fun s5 s6 wx => ∃ g5 : Nat, s5 = .pointer (some ⟨g5, 0, none⟩) ∧ s6 = .bool (addOk x1 y1 x2 y2) ∧ wx.cell? ⟨g5, 0, none⟩ = some (.int .i64 (gate (addOk x1 y1 x2 y2) (x1 + x2))) ∧ wx.cell? ⟨g5, 1, none⟩ = some (.int .i64 (gate (addOk x1 y1 x2 y2) (y1 + y2))) ∧ g5 < wx.heap.size ∧ Below W0.heap.size W0 wx)
  case first =>
    go_region_held3 (fun w' => w'.cell? ⟨w.heap.size, 0, none⟩ = some (.int .i64 x1) ∧ w'.cell? ⟨w.heap.size, 1, none⟩ = some (.int .i64 y1) ∧ w'.cell? ⟨w.heap.size + 1, 0, none⟩ = some (.int .i64 x2) ∧ w'.cell? ⟨w.heap.size + 1, 1, none⟩ = some (.int .i64 y2) ∧ Below W0.heap.size W0 w')
      ((refine (fun hS => ⟨(hS.cell (p := ⟨w.heap.size, 0, none⟩) hs0).trans c0, (hS.cell (p := ⟨w.heap.size, 1, none⟩) hs0).trans c1, (hS.cell (p := ⟨w.heap.size + 1, 0, none⟩) hs1).trans c2, (hS.cell (p := ⟨w.heap.size + 1, 1, none⟩) hs1).trans c3, hS⟩) (?_ : Below W0.heap.size W0 _); first | (go_grown; done)))
      (first | (go_at_call 22; go_call (toVec_any _ _ _) as e w1 ⟨rfl, hb0⟩; have hT : Below W0.heap.size W0 w1 := belowTo (by go_split_ands; assumption) hb0; have hTs := hT.size; (first | have hb1 := belowTo (by assumption) hb0 | have hb1 := hb0); obtain ⟨hc1, hf1⟩ := bcell hb1; have hz1 := bsize hb1) | (go_at_call 24; go_call (specVecAdd_any _ _ _ _ _) as e w1 ⟨rfl, hb0⟩; have hT : Below W0.heap.size W0 w1 := belowTo (by go_split_ands; assumption) hb0; have hTs := hT.size; (first | have hb1 := belowTo (by assumption) hb0 | have hb1 := hb0); obtain ⟨hc1, hf1⟩ := bcell hb1; have hz1 := bsize hb1))
    all_goals (go_wp2_with fail; go_meet)
    all_goals exact ⟨_, rfl, rfl, by first | (go_cell; done) | (simp; done) | (simp [*]; done), by first | (go_cell; done) | (simp; done) | (simp [*]; done), by first | (go_size; done) | (simp [*]; done), by go_grown⟩
  case rest =>
    obtain ⟨W1, rfl⟩ : ∃ W1, W1 = wc := ⟨_, rfl⟩
    obtain ⟨g5, rfl, rfl, d5_0, d5_1, ld5, hB1⟩ := hcut
    replace c0 := (hB1.cell (p := ⟨w.heap.size, 0, none⟩) hs0).trans c0
    replace c1 := (hB1.cell (p := ⟨w.heap.size, 1, none⟩) hs0).trans c1
    replace c2 := (hB1.cell (p := ⟨w.heap.size + 1, 0, none⟩) hs1).trans c2
    replace c3 := (hB1.cell (p := ⟨w.heap.size + 1, 1, none⟩) hs1).trans c3
    replace hs0 := Nat.lt_of_lt_of_le hs0 hB1.size
    replace hs1 := Nat.lt_of_lt_of_le hs1 hB1.size
    replace hB0 := belowTo hB0 hB1
    clear hB1
    go_upto_region 2 with fail
    go_cut [7, 8] (fun s7 s8 wx => ∃ g7 : Nat, s7 = .pointer (some ⟨g7, 0, none⟩) ∧ s8 = .bool (addOk x1 y1 x2 y2) ∧ wx.cell? ⟨g7, 0, none⟩ = some (.int .i64 (gate (addOk x1 y1 x2 y2) (x1 + x2))) ∧ wx.cell? ⟨g7, 1, none⟩ = some (.int .i64 (gate (addOk x1 y1 x2 y2) (y1 + y2))) ∧ g7 < wx.heap.size ∧ Below W1.heap.size W1 wx)
    case first =>
      go_region_held3 (fun w' => w'.cell? ⟨w.heap.size, 0, none⟩ = some (.int .i64 x1) ∧ w'.cell? ⟨w.heap.size, 1, none⟩ = some (.int .i64 y1) ∧ w'.cell? ⟨w.heap.size + 1, 0, none⟩ = some (.int .i64 x2) ∧ w'.cell? ⟨w.heap.size + 1, 1, none⟩ = some (.int .i64 y2) ∧ Below W1.heap.size W1 w')
        ((refine (fun hS => ⟨(hS.cell (p := ⟨w.heap.size, 0, none⟩) hs0).trans c0, (hS.cell (p := ⟨w.heap.size, 1, none⟩) hs0).trans c1, (hS.cell (p := ⟨w.heap.size + 1, 0, none⟩) hs1).trans c2, (hS.cell (p := ⟨w.heap.size + 1, 1, none⟩) hs1).trans c3, hS⟩) (?_ : Below W1.heap.size W1 _); first | (go_grown; done)))
        (first | (go_at_call 22; go_call (toVec_any _ _ _) as e w1 ⟨rfl, hb0⟩; have hT : Below W1.heap.size W1 w1 := belowTo (by go_split_ands; assumption) hb0; have hTs := hT.size; (first | have hb1 := belowTo (by assumption) hb0 | have hb1 := hb0); obtain ⟨hc1, hf1⟩ := bcell hb1; have hz1 := bsize hb1) | (go_at_call 25; go_call (vecAdd_any _ _ _ _ _ (hg.below (belowTo hB0 (by go_split_ands; assumption)))) as e w1 ⟨rfl, hb0⟩; have hT : Below W1.heap.size W1 w1 := belowTo (by go_split_ands; assumption) hb0; have hTs := hT.size; (first | have hb1 := belowTo (by assumption) hb0 | have hb1 := hb0); obtain ⟨hc1, hf1⟩ := bcell hb1; have hz1 := bsize hb1))
      all_goals (go_wp2_with fail; go_meet)
      all_goals exact ⟨_, rfl, rfl, by first | (go_cell; done) | (simp; done) | (simp [*]; done), by first | (go_cell; done) | (simp; done) | (simp [*]; done), by first | (go_size; done) | (simp [*]; done), by go_grown⟩
    case rest =>
      obtain ⟨g7, rfl, rfl, e7_0, e7_1, le7, hB2⟩ := hcut
      replace d5_0 := (hB2.cell (p := ⟨g5, 0, none⟩) ld5).trans d5_0
      replace d5_1 := (hB2.cell (p := ⟨g5, 1, none⟩) ld5).trans d5_1
      replace hB0 := belowTo hB0 hB2
      go_wp2_with fail
      go_call (eqVec_same _ _ _) as e w3 ⟨rfl, hb3⟩
      go_wp2
      go_returns
      exact ⟨rfl, belowTo hB0 hb3⟩
end Go.Proofs.YtdkdpfpfefpphaaDoor
