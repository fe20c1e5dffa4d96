import Derived.Test.YtncjidkgbfilkaaDoorCh
import Derived.Deep.RegionHeld3
import Derived.Deep.DeepCutAuto
namespace Go.Proofs.YtncjidkgbfilkaaDoor
open Go.RowKit

set_option maxHeartbeats 4000000 in
theorem exactConeMove_any (a b c d e0 f g h0 : Int) (w : World) (hg : EtOk w) :
    Calls Tryd.prog 9 #[.agg #[.int .i64 (a), .int .i64 (b), .int .i64 (c), .int .i64 (d)], .agg #[.int .i64 (e0), .int .i64 (f), .int .i64 (g), .int .i64 (h0)]] w fun e w' => e = .returned (.bool true) ∧ Below w.heap.size w w' := by
  go_enter Tryd.func9, Tryd.ntmps9
  go_upto_region 1 with fail
  obtain ⟨W0, hW0⟩ : ∃ W0, W0 = ((w.alloc (.cells #[.int .i64 a, .int .i64 b, .int .i64 c, .int .i64 d] 25)).alloc (.cells #[.int .i64 e0, .int .i64 f, .int .i64 g, .int .i64 h0] 46)) := ⟨_, rfl⟩
  have c0 : W0.cell? ⟨w.heap.size, 0, none⟩ = some (.int .i64 a) := by rw [hW0]; simp
  have c1 : W0.cell? ⟨w.heap.size, 1, none⟩ = some (.int .i64 b) := by rw [hW0]; simp
  have c2 : W0.cell? ⟨w.heap.size, 2, none⟩ = some (.int .i64 c) := by rw [hW0]; simp
  have c3 : W0.cell? ⟨w.heap.size, 3, none⟩ = some (.int .i64 d) := by rw [hW0]; simp
  have c4 : W0.cell? ⟨w.heap.size + 1, 0, none⟩ = some (.int .i64 e0) := by rw [hW0]; simp
  have c5 : W0.cell? ⟨w.heap.size + 1, 1, none⟩ = some (.int .i64 f) := by rw [hW0]; simp
  have c6 : W0.cell? ⟨w.heap.size + 1, 2, none⟩ = some (.int .i64 g) := by rw [hW0]; simp
  have c7 : W0.cell? ⟨w.heap.size + 1, 3, none⟩ = some (.int .i64 h0) := by rw [hW0]; simp
  have hB0 : Below w.heap.size w W0 := by rw [hW0]; go_grown
  have hs0 : w.heap.size < W0.heap.size := by rw [hW0]; simp only [World.size_alloc]; omega
  have hs1 : w.heap.size + 1 < W0.heap.size := by rw [hW0]; simp only [World.size_alloc]; omega
  rw [← hW0]
  clear hW0
  go_cut [5, 6] (fun s5 s6 wx => ∃ g5 : Nat, s5 = .pointer (some ⟨g5, 0, none⟩) ∧ s6 = .bool (cmvOk a b c d e0 f g h0) ∧ wx.cell? ⟨g5, 0, none⟩ = some (.int .i64 (gate (cmvOk a b c d e0 f g h0) (cmA a b c d e0 f g h0))) ∧ wx.cell? ⟨g5, 1, none⟩ = some (.int .i64 (gate (cmvOk a b c d e0 f g h0) (cmB a b c d e0 f g h0))) ∧ wx.cell? ⟨g5, 2, none⟩ = some (.int .i64 (gate (cmvOk a b c d e0 f g h0) (cmC a b c d e0 f g h0))) ∧ wx.cell? ⟨g5, 3, none⟩ = some (.int .i64 (gate (cmvOk a b c d e0 f g h0) (cmD a b c d e0 f g h0))) ∧ g5 < wx.heap.size ∧ Below W0.heap.size W0 wx)
  case first =>
    go_region_held3 (fun w' => w'.cell? ⟨w.heap.size, 0, none⟩ = some (.int .i64 a) ∧ w'.cell? ⟨w.heap.size, 1, none⟩ = some (.int .i64 b) ∧ w'.cell? ⟨w.heap.size, 2, none⟩ = some (.int .i64 c) ∧ w'.cell? ⟨w.heap.size, 3, none⟩ = some (.int .i64 d) ∧ w'.cell? ⟨w.heap.size + 1, 0, none⟩ = some (.int .i64 e0) ∧ w'.cell? ⟨w.heap.size + 1, 1, none⟩ = some (.int .i64 f) ∧ w'.cell? ⟨w.heap.size + 1, 2, none⟩ = some (.int .i64 g) ∧ w'.cell? ⟨w.heap.size + 1, 3, none⟩ = some (.int .i64 h0) ∧ Below W0.heap.size W0 w')
      ((refine (fun hS => ⟨(hS.cell (p := ⟨w.heap.size, 0, none⟩) hs0).trans c0, (hS.cell (p := ⟨w.heap.size, 1, none⟩) hs0).trans c1, (hS.cell (p := ⟨w.heap.size, 2, none⟩) hs0).trans c2, (hS.cell (p := ⟨w.heap.size, 3, none⟩) hs0).trans c3, (hS.cell (p := ⟨w.heap.size + 1, 0, none⟩) hs1).trans c4, (hS.cell (p := ⟨w.heap.size + 1, 1, none⟩) hs1).trans c5, (hS.cell (p := ⟨w.heap.size + 1, 2, none⟩) hs1).trans c6, (hS.cell (p := ⟨w.heap.size + 1, 3, none⟩) hs1).trans c7, hS⟩) (?_ : Below W0.heap.size W0 _); first | (go_grown; done)))
      (first | (go_at_call 12; go_call (toCone_any _ _ _ _ _) as e w1 ⟨rfl, hb0⟩; have hT : Below W0.heap.size W0 w1 := belowTo (by go_split_ands; assumption) hb0; have hTs := hT.size; (first | have hb1 := belowTo (by assumption) hb0 | have hb1 := hb0); obtain ⟨hc1, hf1⟩ := bcell hb1; have hz1 := bsize hb1) | (go_at_call 30; go_call (toMat_any _ _ _ _ _) as e w1 ⟨rfl, hb0⟩; have hT : Below W0.heap.size W0 w1 := belowTo (by go_split_ands; assumption) hb0; have hTs := hT.size; (first | have hb1 := belowTo (by assumption) hb0 | have hb1 := hb0); obtain ⟨hc1, hf1⟩ := bcell hb1; have hz1 := bsize hb1) | (go_at_call 29; go_call (specConeMove_any _ _ _ _ _ _ _ _ _) as e w1 ⟨rfl, hb0⟩; have hT : Below W0.heap.size W0 w1 := belowTo (by go_split_ands; assumption) hb0; have hTs := hT.size; (first | have hb1 := belowTo (by assumption) hb0 | have hb1 := hb0); obtain ⟨hc1, hf1⟩ := bcell hb1; have hz1 := bsize hb1))
    all_goals (go_wp2_with fail; go_meet)
    all_goals exact ⟨_, rfl, rfl, by first | (go_cell; done) | (simp; done) | (simp [*]; done), by first | (go_cell; done) | (simp; done) | (simp [*]; done), by first | (go_cell; done) | (simp; done) | (simp [*]; done), by first | (go_cell; done) | (simp; done) | (simp [*]; done), by first | (go_size; done) | (simp [*]; done), by go_grown⟩
  case rest =>
    obtain ⟨W1, rfl⟩ : ∃ W1, W1 = wc := ⟨_, rfl⟩
    obtain ⟨g5, rfl, rfl, d5_0, d5_1, d5_2, d5_3, ld5, hB1⟩ := hcut
    replace c0 := (hB1.cell (p := ⟨w.heap.size, 0, none⟩) hs0).trans c0
    replace c1 := (hB1.cell (p := ⟨w.heap.size, 1, none⟩) hs0).trans c1
    replace c2 := (hB1.cell (p := ⟨w.heap.size, 2, none⟩) hs0).trans c2
    replace c3 := (hB1.cell (p := ⟨w.heap.size, 3, none⟩) hs0).trans c3
    replace c4 := (hB1.cell (p := ⟨w.heap.size + 1, 0, none⟩) hs1).trans c4
    replace c5 := (hB1.cell (p := ⟨w.heap.size + 1, 1, none⟩) hs1).trans c5
    replace c6 := (hB1.cell (p := ⟨w.heap.size + 1, 2, none⟩) hs1).trans c6
    replace c7 := (hB1.cell (p := ⟨w.heap.size + 1, 3, none⟩) hs1).trans c7
    replace hs0 := Nat.lt_of_lt_of_le hs0 hB1.size
    replace hs1 := Nat.lt_of_lt_of_le hs1 hB1.size
    replace hB0 := belowTo hB0 hB1
    clear hB1
    go_upto_region 2 with fail
    go_cut [7, 8] (fun s7 s8 wx => ∃ g7 : Nat, s7 = .pointer (some ⟨g7, 0, none⟩) ∧ s8 = .bool (cmvOk a b c d e0 f g h0) ∧ wx.cell? ⟨g7, 0, none⟩ = some (.int .i64 (gate (cmvOk a b c d e0 f g h0) (cmA a b c d e0 f g h0))) ∧ wx.cell? ⟨g7, 1, none⟩ = some (.int .i64 (gate (cmvOk a b c d e0 f g h0) (cmB a b c d e0 f g h0))) ∧ wx.cell? ⟨g7, 2, none⟩ = some (.int .i64 (gate (cmvOk a b c d e0 f g h0) (cmC a b c d e0 f g h0))) ∧ wx.cell? ⟨g7, 3, none⟩ = some (.int .i64 (gate (cmvOk a b c d e0 f g h0) (cmD a b c d e0 f g h0))) ∧ g7 < wx.heap.size ∧ Below W1.heap.size W1 wx)
    case first =>
      go_region_held3 (fun w' => w'.cell? ⟨w.heap.size, 0, none⟩ = some (.int .i64 a) ∧ w'.cell? ⟨w.heap.size, 1, none⟩ = some (.int .i64 b) ∧ w'.cell? ⟨w.heap.size, 2, none⟩ = some (.int .i64 c) ∧ w'.cell? ⟨w.heap.size, 3, none⟩ = some (.int .i64 d) ∧ w'.cell? ⟨w.heap.size + 1, 0, none⟩ = some (.int .i64 e0) ∧ w'.cell? ⟨w.heap.size + 1, 1, none⟩ = some (.int .i64 f) ∧ w'.cell? ⟨w.heap.size + 1, 2, none⟩ = some (.int .i64 g) ∧ w'.cell? ⟨w.heap.size + 1, 3, none⟩ = some (.int .i64 h0) ∧ Below W1.heap.size W1 w')
        ((refine (fun hS => ⟨(hS.cell (p := ⟨w.heap.size, 0, none⟩) hs0).trans c0, (hS.cell (p := ⟨w.heap.size, 1, none⟩) hs0).trans c1, (hS.cell (p := ⟨w.heap.size, 2, none⟩) hs0).trans c2, (hS.cell (p := ⟨w.heap.size, 3, none⟩) hs0).trans c3, (hS.cell (p := ⟨w.heap.size + 1, 0, none⟩) hs1).trans c4, (hS.cell (p := ⟨w.heap.size + 1, 1, none⟩) hs1).trans c5, (hS.cell (p := ⟨w.heap.size + 1, 2, none⟩) hs1).trans c6, (hS.cell (p := ⟨w.heap.size + 1, 3, none⟩) hs1).trans c7, hS⟩) (?_ : Below W1.heap.size W1 _); first | (go_grown; done)))
        (first | (go_at_call 12; go_call (toCone_any _ _ _ _ _) as e w1 ⟨rfl, hb0⟩; have hT : Below W1.heap.size W1 w1 := belowTo (by go_split_ands; assumption) hb0; have hTs := hT.size; (first | have hb1 := belowTo (by assumption) hb0 | have hb1 := hb0); obtain ⟨hc1, hf1⟩ := bcell hb1; have hz1 := bsize hb1) | (go_at_call 30; go_call (toMat_any _ _ _ _ _) as e w1 ⟨rfl, hb0⟩; have hT : Below W1.heap.size W1 w1 := belowTo (by go_split_ands; assumption) hb0; have hTs := hT.size; (first | have hb1 := belowTo (by assumption) hb0 | have hb1 := hb0); obtain ⟨hc1, hf1⟩ := bcell hb1; have hz1 := bsize hb1) | (go_at_call 31; go_call (coneMove_any _ _ _ _ _ _ _ _ _ (hg.below (belowTo hB0 (by go_split_ands; assumption)))) as e w1 ⟨rfl, hb0⟩; have hT : Below W1.heap.size W1 w1 := belowTo (by go_split_ands; assumption) hb0; have hTs := hT.size; (first | have hb1 := belowTo (by assumption) hb0 | have hb1 := hb0); obtain ⟨hc1, hf1⟩ := bcell hb1; have hz1 := bsize hb1))
      all_goals (go_wp2_with fail; go_meet)
      all_goals exact ⟨_, rfl, rfl, by first | (go_cell; done) | (simp; done) | (simp [*]; done), by first | (go_cell; done) | (simp; done) | (simp [*]; done), by first | (go_cell; done) | (simp; done) | (simp [*]; done), by first | (go_cell; done) | (simp; done) | (simp [*]; done), by first | (go_size; done) | (simp [*]; done), by go_grown⟩
    case rest =>
      obtain ⟨g7, rfl, rfl, e7_0, e7_1, e7_2, e7_3, le7, hB2⟩ := hcut
      replace d5_0 := (hB2.cell (p := ⟨g5, 0, none⟩) ld5).trans d5_0
      replace d5_1 := (hB2.cell (p := ⟨g5, 1, none⟩) ld5).trans d5_1
      replace d5_2 := (hB2.cell (p := ⟨g5, 2, none⟩) ld5).trans d5_2
      replace d5_3 := (hB2.cell (p := ⟨g5, 3, none⟩) ld5).trans d5_3
      replace hB0 := belowTo hB0 hB2
      go_wp2_with fail
      go_call (eqCone_same _ _ _ _ _) as e w3 ⟨rfl, hb3⟩
      go_wp2
      go_returns
      exact ⟨rfl, belowTo hB0 hb3⟩
end Go.Proofs.YtncjidkgbfilkaaDoor
