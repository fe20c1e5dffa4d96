import Derived.Test.YtncjidkgbfilkaaDoorCc
import Derived.Deep.RegionHeld3
import Derived.Deep.DeepCutAuto
namespace Go.Proofs.YtncjidkgbfilkaaDoor
open Go.RowKit

set_option maxHeartbeats 4000000 in
theorem exactConeDual_any (a b c d : Int) (w : World) (hg : EtOk w) :
    Calls Tryd.prog 8 #[.agg #[.int .i64 (a), .int .i64 (b), .int .i64 (c), .int .i64 (d)]] w fun e w' => e = .returned (.bool true) ∧ Below w.heap.size w w' := by
  go_enter Tryd.func8, Tryd.ntmps8
  go_upto_region 1 with fail
  obtain ⟨W0, hW0⟩ : ∃ W0, W0 = (w.alloc (.cells #[.int .i64 a, .int .i64 b, .int .i64 c, .int .i64 d] 25)) := ⟨_, rfl⟩
  have c0 : W0.cell? ⟨w.heap.size, 0, none⟩ = some (.int .i64 a) := by rw [hW0]; simp
  have c1 : W0.cell? ⟨w.heap.size, 1, none⟩ = some (.int .i64 b) := by rw [hW0]; simp
  have c2 : W0.cell? ⟨w.heap.size, 2, none⟩ = some (.int .i64 c) := by rw [hW0]; simp
  have c3 : W0.cell? ⟨w.heap.size, 3, none⟩ = some (.int .i64 d) := by rw [hW0]; simp
  have hB0 : Below w.heap.size w W0 := by rw [hW0]; go_grown
  have hs0 : w.heap.size < W0.heap.size := by rw [hW0]; simp only [World.size_alloc]; omega
  rw [← hW0]
  clear hW0
  go_cut [3, 4] (fun s3 s4 wx => ∃ g3 : Nat, s3 = .pointer (some ⟨g3, 0, none⟩) ∧ s4 = .bool (coneB a b c d) ∧ wx.cell? ⟨g3, 0, none⟩ = some (.int .i64 (gate (coneB a b c d) (d))) ∧ wx.cell? ⟨g3, 1, none⟩ = some (.int .i64 (gate (coneB a b c d) (-c))) ∧ wx.cell? ⟨g3, 2, none⟩ = some (.int .i64 (gate (coneB a b c d) (-b))) ∧ wx.cell? ⟨g3, 3, none⟩ = some (.int .i64 (gate (coneB a b c d) (a))) ∧ g3 < wx.heap.size ∧ Below W0.heap.size W0 wx)
  case first =>
    go_wp2_with fail
    go_call (toCone_any _ _ _ _ _) as e w1 ⟨rfl, hb1⟩
    obtain ⟨hc1, hf1⟩ := bcell hb1; have hz1 := bsize hb1
    go_wp2_with fail
    go_call (specConeDual_any _ _ _ _ _) as e w2 ⟨rfl, hb2⟩
    replace hb1 := belowTo hb1 hb2; clear hb2 hc1 hf1 hz1; obtain ⟨hc1, hf1⟩ := bcell hb1; have hz1 := bsize hb1
    all_goals (go_wp2_with fail; go_meet)
    all_goals exact ⟨_, rfl, rfl, by first | (go_cell; done) | (simp; done) | (simp [*]; done), by first | (go_cell; done) | (simp; done) | (simp [*]; done), by first | (go_cell; done) | (simp; done) | (simp [*]; done), by first | (go_cell; done) | (simp; done) | (simp [*]; done), by first | (go_size; done) | (simp [*]; done), by have hS1 := hb1.size; go_grown⟩
  case rest =>
    obtain ⟨W1, rfl⟩ : ∃ W1, W1 = wc := ⟨_, rfl⟩
    obtain ⟨g3, rfl, rfl, d3_0, d3_1, d3_2, d3_3, ld3, hB1⟩ := hcut
    replace c0 := (hB1.cell (p := ⟨w.heap.size, 0, none⟩) hs0).trans c0
    replace c1 := (hB1.cell (p := ⟨w.heap.size, 1, none⟩) hs0).trans c1
    replace c2 := (hB1.cell (p := ⟨w.heap.size, 2, none⟩) hs0).trans c2
    replace c3 := (hB1.cell (p := ⟨w.heap.size, 3, none⟩) hs0).trans c3
    replace hs0 := Nat.lt_of_lt_of_le hs0 hB1.size
    replace hB0 := belowTo hB0 hB1
    clear hB1
    go_upto_region 2 with fail
    go_cut [5, 6] (fun s5 s6 wx => ∃ g5 : Nat, s5 = .pointer (some ⟨g5, 0, none⟩) ∧ s6 = .bool (coneB a b c d) ∧ wx.cell? ⟨g5, 0, none⟩ = some (.int .i64 (gate (coneB a b c d) (d))) ∧ wx.cell? ⟨g5, 1, none⟩ = some (.int .i64 (gate (coneB a b c d) (-c))) ∧ wx.cell? ⟨g5, 2, none⟩ = some (.int .i64 (gate (coneB a b c d) (-b))) ∧ wx.cell? ⟨g5, 3, none⟩ = some (.int .i64 (gate (coneB a b c d) (a))) ∧ g5 < wx.heap.size ∧ Below W1.heap.size W1 wx)
    case first =>
      go_wp2_with fail
      go_call (toCone_any _ _ _ _ _) as e w1 ⟨rfl, hb1⟩
      obtain ⟨hc1, hf1⟩ := bcell hb1; have hz1 := bsize hb1
      go_wp2_with fail
      go_call (coneDual_any _ _ _ _ _ (hg.below (belowTo hB0 hb1))) as e w2 ⟨rfl, hb2⟩
      replace hb1 := belowTo hb1 hb2; clear hb2 hc1 hf1 hz1; obtain ⟨hc1, hf1⟩ := bcell hb1; have hz1 := bsize hb1
      all_goals (go_wp2_with fail; go_meet)
      all_goals exact ⟨_, rfl, rfl, by first | (go_cell; done) | (simp; done) | (simp [*]; done), by first | (go_cell; done) | (simp; done) | (simp [*]; done), by first | (go_cell; done) | (simp; done) | (simp [*]; done), by first | (go_cell; done) | (simp; done) | (simp [*]; done), by first | (go_size; done) | (simp [*]; done), by have hS1 := hb1.size; go_grown⟩
    case rest =>
      obtain ⟨g5, rfl, rfl, e5_0, e5_1, e5_2, e5_3, le5, hB2⟩ := hcut
      replace d3_0 := (hB2.cell (p := ⟨g3, 0, none⟩) ld3).trans d3_0
      replace d3_1 := (hB2.cell (p := ⟨g3, 1, none⟩) ld3).trans d3_1
      replace d3_2 := (hB2.cell (p := ⟨g3, 2, none⟩) ld3).trans d3_2
      replace d3_3 := (hB2.cell (p := ⟨g3, 3, none⟩) ld3).trans d3_3
      replace hB0 := belowTo hB0 hB2
      go_wp2_with fail
      go_call (eqCone_same _ _ _ _ _) as e w3 ⟨rfl, hb3⟩
      go_wp2
      go_returns
      exact ⟨rfl, belowTo hB0 hb3⟩
end Go.Proofs.YtncjidkgbfilkaaDoor
