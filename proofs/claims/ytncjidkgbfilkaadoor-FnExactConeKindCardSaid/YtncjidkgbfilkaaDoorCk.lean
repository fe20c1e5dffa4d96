import Derived.Test.YtncjidkgbfilkaaDoorCd
import Derived.Deep.RegionHeld3
import Derived.Deep.DeepCutAuto
namespace Go.Proofs.YtncjidkgbfilkaaDoor
open Go.RowKit

set_option maxHeartbeats 4000000 in
theorem exactConeKind_any (a b c d : Int) (w : World) (hg : EtOk w) :
    Calls Tryd.prog 6 #[.agg #[.int .i64 (a), .int .i64 (b), .int .i64 (c), .int .i64 (d)]] w fun e w' => e = .returned (.bool true) ∧ Below w.heap.size w w' := by
  go_enter Tryd.func6, Tryd.ntmps6
  go_upto_region 1 with fail
  obtain ⟨W0, hW0⟩ : ∃ W0, W0 = (w.alloc (.cells #[.int .i64 a, .int .i64 b, .int .i64 c, .int .i64 d] 25)) := ⟨_, rfl⟩
  have c0 : W0.cell? ⟨w.heap.size, 0, none⟩ = some (.int .i64 a) := by rw [hW0]; simp
  have c1 : W0.cell? ⟨w.heap.size, 1, none⟩ = some (.int .i64 b) := by rw [hW0]; simp
  have c2 : W0.cell? ⟨w.heap.size, 2, none⟩ = some (.int .i64 c) := by rw [hW0]; simp
  have c3 : W0.cell? ⟨w.heap.size, 3, none⟩ = some (.int .i64 d) := by rw [hW0]; simp
  have hB0 : Below w.heap.size w W0 := by rw [hW0]; go_grown
  have hs0 : w.heap.size < W0.heap.size := by rw [hW0]; simp only [World.size_alloc]; omega
  rw [← hW0]
  clear hW0
  go_cut [3, 4] (fun s3 s4 wx => s3 = .int .i64 (gate (coneB a b c d) (kindC a b c d)) ∧ s4 = .bool (coneB a b c d) ∧ Below W0.heap.size W0 wx)
  case first =>
    go_wp2_with fail
    go_call (toCone_any _ _ _ _ _) as e w1 ⟨rfl, hb1⟩
    obtain ⟨hc1, hf1⟩ := bcell hb1; have hz1 := bsize hb1
    go_wp2_with fail
    go_call (specConeKind_any _ _ _ _ _) as e w2 ⟨rfl, hb2⟩
    replace hb1 := belowTo hb1 hb2; clear hb2 hc1 hf1 hz1; obtain ⟨hc1, hf1⟩ := bcell hb1; have hz1 := bsize hb1
    all_goals (go_wp2_with fail; go_meet)
    all_goals exact ⟨rfl, rfl, by have hS1 := hb1.size; go_grown⟩
  case rest =>
    obtain ⟨W1, rfl⟩ : ∃ W1, W1 = wc := ⟨_, rfl⟩
    obtain ⟨rfl, rfl, hB1⟩ := hcut
    replace c0 := (hB1.cell (p := ⟨w.heap.size, 0, none⟩) hs0).trans c0
    replace c1 := (hB1.cell (p := ⟨w.heap.size, 1, none⟩) hs0).trans c1
    replace c2 := (hB1.cell (p := ⟨w.heap.size, 2, none⟩) hs0).trans c2
    replace c3 := (hB1.cell (p := ⟨w.heap.size, 3, none⟩) hs0).trans c3
    replace hs0 := Nat.lt_of_lt_of_le hs0 hB1.size
    replace hB0 := belowTo hB0 hB1
    clear hB1
    go_upto_region 2 with fail
    go_cut [5, 6] (fun s5 s6 wx => s5 = .int .i64 (gate (coneB a b c d) (kindC a b c d)) ∧ s6 = .bool (coneB a b c d) ∧ Below W1.heap.size W1 wx)
    case first =>
      go_wp2_with fail
      go_call (toCone_any _ _ _ _ _) as e w1 ⟨rfl, hb1⟩
      obtain ⟨hc1, hf1⟩ := bcell hb1; have hz1 := bsize hb1
      go_wp2_with fail
      go_call (coneKind_any _ _ _ _ _ (hg.below (belowTo hB0 hb1))) as e w2 ⟨rfl, hb2⟩
      replace hb1 := belowTo hb1 hb2; clear hb2 hc1 hf1 hz1; obtain ⟨hc1, hf1⟩ := bcell hb1; have hz1 := bsize hb1
      all_goals (go_wp2_with fail; go_meet)
      all_goals exact ⟨rfl, rfl, by have hS1 := hb1.size; go_grown⟩
    case rest =>
      obtain ⟨rfl, rfl, hB2⟩ := hcut
      replace hB0 := belowTo hB0 hB2
      go_wp2
      go_returns
      exact ⟨rfl, hB0⟩
end Go.Proofs.YtncjidkgbfilkaaDoor
