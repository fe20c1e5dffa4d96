import Derived.Test.YtomadlpdlmbmjaaDoorB2
import Derived.Test.YtomadlpdlmbmjaaDoorTi
namespace Go.Proofs.YtomadlpdlmbmjaaDoor
open Go.RowKit

set_option maxHeartbeats 4000000 in
theorem exactVecPrimitive_any (x y : Int) (w : World) (hg : EtOk w) :
    Calls Tryd.prog 4 #[.agg #[.int .i64 (x), .int .i64 (y)]] w fun e w' => e = .returned (.bool true) ∧ Below w.heap.size w w' := by
  go_enter Tryd.func4, Tryd.ntmps4
  go_upto_region 1 with fail
  obtain ⟨W0, hW0⟩ : ∃ W0, W0 = (w.alloc (.cells #[.int .i64 x, .int .i64 y] 31)) := ⟨_, rfl⟩
  have c0 : W0.cell? ⟨w.heap.size, 0, none⟩ = some (.int .i64 x) := by rw [hW0]; simp
  have c1 : W0.cell? ⟨w.heap.size, 1, none⟩ = some (.int .i64 y) := by rw [hW0]; simp
  have hB0 : Below w.heap.size w W0 := by rw [hW0]; go_grown
  have hs0 : w.heap.size < W0.heap.size := by rw [hW0]; simp only [World.size_alloc]; omega
  rw [← hW0]
  clear hW0
  go_cut [3, 4, 5] (fun s3 s4 s5 wx => ∃ g3 : Nat, s3 = .pointer (some ⟨g3, 0, none⟩) ∧ s4 = .int .i64 (gate (primOk x y) (gcdZ x y)) ∧ s5 = .bool (primOk x y) ∧ wx.cell? ⟨g3, 0, none⟩ = some (.int .i64 (gate (primOk x y) (x.tdiv (gcdZ x y)))) ∧ wx.cell? ⟨g3, 1, none⟩ = some (.int .i64 (gate (primOk x y) (y.tdiv (gcdZ x y)))) ∧ g3 < wx.heap.size ∧ Below W0.heap.size W0 wx)
  case first =>
    go_wp2_with fail
    go_call (toVec_any _ _ _) as e w1 ⟨rfl, hb1⟩
    obtain ⟨hc1, hf1⟩ := bcell hb1; have hz1 := bsize hb1
    go_wp2_with fail
    go_call (specVecPrimitive_any _ _ _) as e w2 ⟨rfl, hb2⟩
    replace hb1 := belowTo hb1 hb2; clear hb2 hc1 hf1 hz1; obtain ⟨hc1, hf1⟩ := bcell hb1; have hz1 := bsize hb1
    all_goals (go_wp2_with fail; go_meet)
    all_goals exact ⟨_, rfl, rfl, rfl, by first | (go_cell; done) | (simp; done) | (simp [*]; done), by first | (go_cell; done) | (simp; done) | (simp [*]; done), by first | (go_size; done) | (simp [*]; done), by have hS1 := hb1.size; go_grown⟩
  case rest =>
    obtain ⟨W1, rfl⟩ : ∃ W1, W1 = wc := ⟨_, rfl⟩
    obtain ⟨g3, rfl, rfl, rfl, d3_0, d3_1, ld3, hB1⟩ := hcut
    replace c0 := (hB1.cell (p := ⟨w.heap.size, 0, none⟩) hs0).trans c0
    replace c1 := (hB1.cell (p := ⟨w.heap.size, 1, none⟩) hs0).trans c1
    replace hs0 := Nat.lt_of_lt_of_le hs0 hB1.size
    replace hB0 := belowTo hB0 hB1
    clear hB1
    go_upto_region 2 with fail
    go_cut [6, 7, 8] (fun s6 s7 s8 wx => ∃ g6 : Nat, s6 = .pointer (some ⟨g6, 0, none⟩) ∧ s7 = .int .i64 (gate (primOk x y) (gcdZ x y)) ∧ s8 = .bool (primOk x y) ∧ wx.cell? ⟨g6, 0, none⟩ = some (.int .i64 (gate (primOk x y) (x.tdiv (gcdZ x y)))) ∧ wx.cell? ⟨g6, 1, none⟩ = some (.int .i64 (gate (primOk x y) (y.tdiv (gcdZ x y)))) ∧ g6 < wx.heap.size ∧ Below W1.heap.size W1 wx)
    case first =>
      go_wp2_with fail
      go_call (toVec_any _ _ _) as e w1 ⟨rfl, hb1⟩
      obtain ⟨hc1, hf1⟩ := bcell hb1; have hz1 := bsize hb1
      go_wp2_with fail
      go_call (vecPrimitive_any _ _ _ (hg.below (belowTo hB0 hb1))) as e w2 ⟨rfl, hb2⟩
      replace hb1 := belowTo hb1 hb2; clear hb2 hc1 hf1 hz1; obtain ⟨hc1, hf1⟩ := bcell hb1; have hz1 := bsize hb1
      all_goals (go_wp2_with fail; go_meet)
      all_goals exact ⟨_, rfl, rfl, rfl, by first | (go_cell; done) | (simp; done) | (simp [*]; done), by first | (go_cell; done) | (simp; done) | (simp [*]; done), by first | (go_size; done) | (simp [*]; done), by have hS1 := hb1.size; go_grown⟩
    case rest =>
      obtain ⟨g6, rfl, rfl, rfl, e6_0, e6_1, le6, hB2⟩ := hcut
      replace d3_0 := (hB2.cell (p := ⟨g3, 0, none⟩) ld3).trans d3_0
      replace d3_1 := (hB2.cell (p := ⟨g3, 1, none⟩) ld3).trans d3_1
      replace hB0 := belowTo hB0 hB2
      go_wp2_with fail
      go_call (eqVec_same _ _ _) as e w3 ⟨rfl, hb3⟩
      go_wp2
      go_returns
      exact ⟨rfl, belowTo hB0 hb3⟩
end Go.Proofs.YtomadlpdlmbmjaaDoor
