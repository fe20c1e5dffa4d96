import Derived.Test.YtnemmgnipmjpcaaDoorB2
namespace Go.Proofs.YtnemmgnipmjpcaaDoor
open Go.RowKit

/-! eqMat at one matrix twice -/
/-! checkAll over two matrices -/
set_option maxHeartbeats 1000000 in
theorem checkAll_mm_in (a b c d a2 b2 c2 d2 : Int) (B : Nat) (w : World) (h1 : matB a b c d = true) (h2 : matB a2 b2 c2 d2 = true)
    (c0 : w.cell? ⟨B, 0, none⟩ = some (.iface 41 (.agg #[.int .i64 (a), .int .i64 (b), .int .i64 (c), .int .i64 (d)]))) (c1 : w.cell? ⟨B, 1, none⟩ = some (.iface 41 (.agg #[.int .i64 (a2), .int .i64 (b2), .int .i64 (c2), .int .i64 (d2)]))) (hB : B < w.heap.size) :
    Calls Tryd.prog 52 #[.slice (some ⟨B, 0, none⟩) 2 2] w fun e w' => e = .returned .nilIface ∧ Below w.heap.size w w' := by
  go_enter Tryd.func52, Tryd.ntmps52
  go_wp2
  refine wp_loop_rounds 3 ?_
  rw [rounds_succ]
  go_wp2_with fail
  go_call (matCheck_in a b c d _ h1) as e w1 ⟨rfl, hb1⟩
  have c1' : w1.cell? ⟨B, 1, none⟩ = some (.iface 41 (.agg #[.int .i64 (a2), .int .i64 (b2), .int .i64 (c2), .int .i64 (d2)])) := (hb1.cell (p := ⟨B, 1, none⟩) hB).trans c1
  clear c0 c1
  go_wp2_with fail
  rw [rounds_succ]
  go_wp2_with fail
  go_call (matCheck_in a2 b2 c2 d2 _ h2) as e w2 ⟨rfl, hb2⟩
  clear c1'
  go_wp2_with fail
  rw [rounds_succ]
  go_wp2
  go_returns
  exact ⟨rfl, belowTo hb1 hb2⟩
set_option maxHeartbeats 1000000 in
theorem checkAll_mm_out (a b c d a2 b2 c2 d2 : Int) (B : Nat) (w : World) (h : mmOk a b c d a2 b2 c2 d2 = false)
    (c0 : w.cell? ⟨B, 0, none⟩ = some (.iface 41 (.agg #[.int .i64 (a), .int .i64 (b), .int .i64 (c), .int .i64 (d)]))) (c1 : w.cell? ⟨B, 1, none⟩ = some (.iface 41 (.agg #[.int .i64 (a2), .int .i64 (b2), .int .i64 (c2), .int .i64 (d2)]))) (hB : B < w.heap.size) :
    Calls Tryd.prog 52 #[.slice (some ⟨B, 0, none⟩) 2 2] w fun e w' => e = .returned (.iface 76 (.agg #[.string ⟨#[109, 97, 116, 114, 105, 120]⟩])) ∧ Below w.heap.size w w' := by
  unfold mmOk at h
  cases h1 : matB a b c d
  · clear h
    go_enter Tryd.func52, Tryd.ntmps52
    go_wp2
    refine wp_loop_rounds 3 ?_
    rw [rounds_succ]
    go_wp2_with fail
    go_call (matCheck_out a b c d _ h1) as e w1 ⟨rfl, hb1⟩
    clear c0 c1
    go_wp2
    go_returns
    exact ⟨rfl, hb1⟩
  · have h2 : matB a2 b2 c2 d2 = false := by simpa [h1] using h
    clear h
    go_enter Tryd.func52, Tryd.ntmps52
    go_wp2
    refine wp_loop_rounds 3 ?_
    rw [rounds_succ]
    go_wp2_with fail
    go_call (matCheck_in a b c d _ h1) as e w1 ⟨rfl, hb1⟩
    have c1' : w1.cell? ⟨B, 1, none⟩ = some (.iface 41 (.agg #[.int .i64 (a2), .int .i64 (b2), .int .i64 (c2), .int .i64 (d2)])) := (hb1.cell (p := ⟨B, 1, none⟩) hB).trans c1
    clear c0 c1
    go_wp2_with fail
    rw [rounds_succ]
    go_wp2_with fail
    go_call (matCheck_out a2 b2 c2 d2 _ h2) as e w2 ⟨rfl, hb2⟩
    clear c1'
    go_wp2
    go_returns
    exact ⟨rfl, belowTo hb1 hb2⟩

set_option maxHeartbeats 1000000 in
theorem madeMat_any (a b c d : Int) (w : World) (hg : EtOk w) :
    Calls Tryd.prog 68 #[.agg #[.int .i64 (a), .int .i64 (b), .int .i64 (c), .int .i64 (d)]] w fun e w' => e = .returned (.tuple #[.agg #[.int .i64 (gate (matB a b c d) a), .int .i64 (gate (matB a b c d) b), .int .i64 (gate (matB a b c d) c), .int .i64 (gate (matB a b c d) d)], .bool (matB a b c d)]) ∧ Below w.heap.size w w' := by
  cases h : matB a b c d
  · go_enter Tryd.func68, Tryd.ntmps68
    (go_wp2_with fail; go_call (matCheck_out a b c d _ h) as e w1 ⟨rfl, hb1⟩); obtain ⟨hc1, hf1⟩ := bcell hb1; have hz1 := bsize hb1
    (go_wp2_with fail; go_call (none_hit _ _ (hg.below (belowTo (a := w) (by go_grown) hb1))) as e w2 ⟨rfl, hb2⟩); replace hb1 := belowTo hb1 hb2; clear hb2 hc1 hf1 hz1; obtain ⟨hc1, hf1⟩ := bcell hb1; have hz1 := bsize hb1
    go_wp2
    have hB := belowTo (a := w) (by go_grown) hb1; have hS := hB.size; (refine bodyPost_ret (by simp [results, Tryd.results68, go_sem, bcs hb1]; try rfl) rfl ?_); clear hb1
    exact ⟨rfl, by go_grown⟩
  · go_enter Tryd.func68, Tryd.ntmps68
    (go_wp2_with fail; go_call (matCheck_in a b c d _ h) as e w1 ⟨rfl, hb1⟩); obtain ⟨hc1, hf1⟩ := bcell hb1; have hz1 := bsize hb1
    (go_wp2_with fail; go_call (none_nil _) as e w2 ⟨rfl, hb2⟩); replace hb1 := belowTo hb1 hb2; clear hb2 hc1 hf1 hz1; obtain ⟨hc1, hf1⟩ := bcell hb1; have hz1 := bsize hb1
    go_wp2
    have hB := belowTo (a := w) (by go_grown) hb1; have hS := hB.size; (refine bodyPost_ret (by simp [results, Tryd.results68, go_sem, bcs hb1]; try rfl) rfl ?_); clear hb1
    exact ⟨rfl, by go_grown⟩

set_option maxHeartbeats 2000000 in
theorem matTimesM_any (a b c d a2 b2 c2 d2 : Int) (w : World) (h1 : matB a b c d = true) (h2 : matB a2 b2 c2 d2 = true) :
    Calls Tryd.prog 69 #[.agg #[.int .i64 (a), .int .i64 (b), .int .i64 (c), .int .i64 (d)], .agg #[.int .i64 (a2), .int .i64 (b2), .int .i64 (c2), .int .i64 (d2)]] w fun e w' => e = .returned (.agg #[.int .i64 (moveX a b a2 c2), .int .i64 (moveX a b b2 d2), .int .i64 (moveX c d a2 c2), .int .i64 (moveX c d b2 d2)]) ∧ Below w.heap.size w w' := by
  obtain ⟨⟨ha, hb, hc, hd⟩, _⟩ := mat_in h1
  obtain ⟨⟨ha2, hb2, hc2, hd2⟩, _⟩ := mat_in h2
  clear h1 h2
  go_enter Tryd.func69, Tryd.ntmps69
  (go_wp2_with fail; go_call (move_any a b c d a2 c2 _ ha hb hc hd ha2 hc2) as e w1 ⟨rfl, hb1⟩); obtain ⟨hc1, hf1⟩ := bcell hb1; have hz1 := bsize hb1
  have l0 : w.heap.size < w1.heap.size := bsize hb1 _ (by simp only [World.size_alloc]; omega); have l1 : w.heap.size + 1 < w1.heap.size := bsize hb1 _ (by simp only [World.size_alloc]; omega); have l2 : w.heap.size + 1 + 1 < w1.heap.size := bsize hb1 _ (by simp only [World.size_alloc]; omega)
  go_wp2_with fail
  go_call (move_any a b c d b2 d2 _ ha hb hc hd hb2 hd2) as e w2 ⟨rfl, hb3⟩
  obtain ⟨hc3, hf3⟩ := bcell hb3
  have hz3 := bsize hb3
  have m0 : w1.heap.size < w2.heap.size := bsize hb3 _ (by simp)
  have m1 : w.heap.size + 1 + 1 < w2.heap.size := by omega
  have m2 : w.heap.size + 1 + 1 ≠ w2.heap.size := by omega
  go_wp2
  have hA := belowTo (a := w) (by go_grown) hb1
  have hB := belowTo (hA.alloc hA.size _) hb3
  have hS := hB.size
  have z0 : w2.cell? ⟨w.heap.size + 1 + 1, 0, none⟩ = some (.int .i64 0) := (hb3.cell (p := ⟨w.heap.size + 1 + 1, 0, none⟩) (by simp only [World.size_alloc]; omega)).trans ((World.cell?_alloc_lt _ _ ⟨w.heap.size + 1 + 1, 0, none⟩ l2).trans ((hb1.cell (p := ⟨w.heap.size + 1 + 1, 0, none⟩) (by simp only [World.size_alloc]; omega)).trans (by rw [World.cell?_alloc_at _ _ _ _ (by simp)]; rfl)))
  have z1 : w2.cell? ⟨w.heap.size + 1 + 1, 1, none⟩ = some (.int .i64 0) := (hb3.cell (p := ⟨w.heap.size + 1 + 1, 1, none⟩) (by simp only [World.size_alloc]; omega)).trans ((World.cell?_alloc_lt _ _ ⟨w.heap.size + 1 + 1, 1, none⟩ l2).trans ((hb1.cell (p := ⟨w.heap.size + 1 + 1, 1, none⟩) (by simp only [World.size_alloc]; omega)).trans (by rw [World.cell?_alloc_at _ _ _ _ (by simp)]; rfl)))
  have z2 : w2.cell? ⟨w.heap.size + 1 + 1, 2, none⟩ = some (.int .i64 0) := (hb3.cell (p := ⟨w.heap.size + 1 + 1, 2, none⟩) (by simp only [World.size_alloc]; omega)).trans ((World.cell?_alloc_lt _ _ ⟨w.heap.size + 1 + 1, 2, none⟩ l2).trans ((hb1.cell (p := ⟨w.heap.size + 1 + 1, 2, none⟩) (by simp only [World.size_alloc]; omega)).trans (by rw [World.cell?_alloc_at _ _ _ _ (by simp)]; rfl)))
  have z3 : w2.cell? ⟨w.heap.size + 1 + 1, 3, none⟩ = some (.int .i64 0) := (hb3.cell (p := ⟨w.heap.size + 1 + 1, 3, none⟩) (by simp only [World.size_alloc]; omega)).trans ((World.cell?_alloc_lt _ _ ⟨w.heap.size + 1 + 1, 3, none⟩ l2).trans ((hb1.cell (p := ⟨w.heap.size + 1 + 1, 3, none⟩) (by simp only [World.size_alloc]; omega)).trans (by rw [World.cell?_alloc_at _ _ _ _ (by simp)]; rfl)))
  refine bodyPost_ret (by simp [results, Tryd.results69, go_sem, m1, z0, z1, z2, z3]; try rfl) rfl ?_
  clear hb1 hb3
  exact ⟨rfl, by go_grown⟩

set_option maxHeartbeats 2000000 in
theorem matTimes_any (a b c d a2 b2 c2 d2 : Int) (w : World) (hg : EtOk w) :
    Calls Tryd.prog 38 #[.agg #[.int .i64 (a), .int .i64 (b), .int .i64 (c), .int .i64 (d)], .agg #[.int .i64 (a2), .int .i64 (b2), .int .i64 (c2), .int .i64 (d2)]] w fun e w' => e = .returned (.tuple #[.agg #[.int .i64 (gate (mtOk a b c d a2 b2 c2 d2) (moveX a b a2 c2)), .int .i64 (gate (mtOk a b c d a2 b2 c2 d2) (moveX a b b2 d2)), .int .i64 (gate (mtOk a b c d a2 b2 c2 d2) (moveX c d a2 c2)), .int .i64 (gate (mtOk a b c d a2 b2 c2 d2) (moveX c d b2 d2))], .bool (mtOk a b c d a2 b2 c2 d2)]) ∧ Below w.heap.size w w' := by
  cases h : mmOk a b c d a2 b2 c2 d2
  · have hk : mtOk a b c d a2 b2 c2 d2 = false := by
      unfold mtOk
      cases h1 : matB a b c d
      · rfl
      · have h2 : matB a2 b2 c2 d2 = false := by simpa [mmOk, h1] using h
        rw [h2]; rfl
    rw [hk]
    clear hk
    go_enter Tryd.func38, Tryd.ntmps38
    (go_wp2_with fail; go_call (checkAll_mm_out a b c d a2 b2 c2 d2 _ _ h) as e w1 ⟨rfl, hb1⟩); obtain ⟨hc1, hf1⟩ := bcell hb1; have hz1 := bsize hb1
    (go_wp2_with fail; go_call (none_hit _ _ (hg.below (belowTo (a := w) (by go_grown) hb1))) as e w2 ⟨rfl, hb2⟩); replace hb1 := belowTo hb1 hb2; clear hb2 hc1 hf1 hz1; obtain ⟨hc1, hf1⟩ := bcell hb1; have hz1 := bsize hb1
    go_wp2
    have hB := belowTo (a := w) (by go_grown) hb1; have hS := hB.size; (refine bodyPost_ret (by simp [results, Tryd.results38, go_sem, bcs hb1]; try rfl) rfl ?_); clear hb1
    exact ⟨rfl, by go_grown⟩
  · have h12 : matB a b c d = true ∧ matB a2 b2 c2 d2 = true := by simpa [mmOk] using h
    obtain ⟨h1, h2⟩ := h12
    clear h
    unfold mtOk
    rw [h1, h2]
    go_enter Tryd.func38, Tryd.ntmps38
    (go_wp2_with fail; go_call (checkAll_mm_in a b c d a2 b2 c2 d2 _ _ h1 h2) as e w1 ⟨rfl, hb1⟩); obtain ⟨hc1, hf1⟩ := bcell hb1; have hz1 := bsize hb1
    (go_wp2_with fail; go_call (none_nil _) as e w2 ⟨rfl, hb2⟩); replace hb1 := belowTo hb1 hb2; clear hb2 hc1 hf1 hz1; obtain ⟨hc1, hf1⟩ := bcell hb1; have hz1 := bsize hb1
    (go_wp2_with fail; go_call (matTimesM_any a b c d a2 b2 c2 d2 _ h1 h2) as e w2 ⟨rfl, hb2⟩); replace hb1 := belowTo hb1 hb2; clear hb2 hc1 hf1 hz1; obtain ⟨hc1, hf1⟩ := bcell hb1; have hz1 := bsize hb1
    (go_wp2_with fail; go_call (madeMat_any _ _ _ _ _ (hg.below (belowTo (a := w) (by go_grown) hb1))) as e w2 ⟨rfl, hb2⟩); replace hb1 := belowTo hb1 hb2; clear hb2 hc1 hf1 hz1; obtain ⟨hc1, hf1⟩ := bcell hb1; have hz1 := bsize hb1
    go_wp2
    have hB := belowTo (a := w) (by go_grown) hb1; have hS := hB.size; (refine bodyPost_ret (by simp [results, Tryd.results38, go_sem, bcs hb1]; try rfl) rfl ?_); clear hb1
    exact ⟨rfl, by go_grown⟩
set_option maxHeartbeats 4000000 in
theorem specMatTimes_any (a b c d a2 b2 c2 d2 : Int) (w : World) :
    Calls Tryd.prog 43 #[.agg #[.int .i64 (a), .int .i64 (b), .int .i64 (c), .int .i64 (d)], .agg #[.int .i64 (a2), .int .i64 (b2), .int .i64 (c2), .int .i64 (d2)]] w fun e w' => e = .returned (.tuple #[.agg #[.int .i64 (gate (mtOk a b c d a2 b2 c2 d2) (moveX a b a2 c2)), .int .i64 (gate (mtOk a b c d a2 b2 c2 d2) (moveX a b b2 d2)), .int .i64 (gate (mtOk a b c d a2 b2 c2 d2) (moveX c d a2 c2)), .int .i64 (gate (mtOk a b c d a2 b2 c2 d2) (moveX c d b2 d2))], .bool (mtOk a b c d a2 b2 c2 d2)]) ∧ Below w.heap.size w w' := by
  unfold mtOk
  cases h1 : matB a b c d
  · go_enter Tryd.func43, Tryd.ntmps43
    (go_wp2_with fail; go_call (specMatIn_any a b c d _) as e w1 ⟨rfl, hb1⟩); obtain ⟨hc1, hf1⟩ := bcell hb1; have hz1 := bsize hb1
    go_wp2
    have hB := belowTo (a := w) (by go_grown) hb1; have hS := hB.size; (refine bodyPost_ret (by simp [results, Tryd.results43, go_sem, bcs hb1]; try rfl) rfl ?_); clear hb1
    exact ⟨rfl, by go_grown⟩
  · cases h2 : matB a2 b2 c2 d2
    · go_enter Tryd.func43, Tryd.ntmps43
      (go_wp2_with fail; go_call (specMatIn_any a b c d _) as e w1 ⟨rfl, hb1⟩); obtain ⟨hc1, hf1⟩ := bcell hb1; have hz1 := bsize hb1
      (go_wp2_with fail; go_call (specMatIn_any a2 b2 c2 d2 _) as e w2 ⟨rfl, hb2⟩); replace hb1 := belowTo hb1 hb2; clear hb2 hc1 hf1 hz1; obtain ⟨hc1, hf1⟩ := bcell hb1; have hz1 := bsize hb1
      go_wp2
      have hB := belowTo (a := w) (by go_grown) hb1; have hS := hB.size; (refine bodyPost_ret (by simp [results, Tryd.results43, go_sem, bcs hb1]; try rfl) rfl ?_); clear hb1
      exact ⟨rfl, by go_grown⟩
    · obtain ⟨⟨ha, hb, hc, hd⟩, _⟩ := mat_in h1
      obtain ⟨⟨ha2, hb2, hc2, hd2⟩, _⟩ := mat_in h2
      obtain ⟨⟨_, _⟩, _, _⟩ := move_bd ha hb ha2 hc2
      obtain ⟨⟨_, _⟩, _, _⟩ := move_bd ha hb hb2 hd2
      obtain ⟨⟨_, _⟩, _, _⟩ := move_bd hc hd ha2 hc2
      obtain ⟨⟨_, _⟩, _, _⟩ := move_bd hc hd hb2 hd2
      clear ha hb hc hd ha2 hb2 hc2 hd2
      cases h3 : matB (moveX a b a2 c2) (moveX a b b2 d2) (moveX c d a2 c2) (moveX c d b2 d2)
      all_goals
        go_enter Tryd.func43, Tryd.ntmps43
        (go_wp2_with fail; go_call (specMatIn_any a b c d _) as e w1 ⟨rfl, hb1⟩); obtain ⟨hc1, hf1⟩ := bcell hb1; have hz1 := bsize hb1
        go_wp2_with fail
        go_call (specMatIn_any a2 b2 c2 d2 _) as e w2 ⟨rfl, hb2⟩
        replace hb1 := belowTo hb1 hb2; clear hb2 hc1 hf1 hz1; obtain ⟨hc1, hf1⟩ := bcell hb1; have hz1 := bsize hb1
        have l0 : w.heap.size < w2.heap.size := bsize hb1 _ (by simp only [World.size_alloc]; omega); have l1 : w.heap.size + 1 < w2.heap.size := bsize hb1 _ (by simp only [World.size_alloc]; omega); have l2 : w.heap.size + 1 + 1 < w2.heap.size := bsize hb1 _ (by simp only [World.size_alloc]; omega)
        go_wp2_with fail
        go_call (specMatIn_any (moveX a b a2 c2) (moveX a b b2 d2) (moveX c d a2 c2) (moveX c d b2 d2) _) as e w3 ⟨rfl, hb3⟩
        obtain ⟨hc3, hf3⟩ := bcell hb3
        have hz3 := bsize hb3
        have m0 : w2.heap.size < w3.heap.size := bsize hb3 _ (by simp)
        have m1 : w.heap.size + 1 + 1 < w3.heap.size := by omega
        have m2 : w.heap.size + 1 + 1 ≠ w2.heap.size := by omega
        have z0 : w3.cell? ⟨w.heap.size + 1 + 1, 0, none⟩ = some (.int .i64 0) := (hb3.cell (p := ⟨w.heap.size + 1 + 1, 0, none⟩) (by simp only [World.size_alloc]; omega)).trans ((World.cell?_alloc_lt _ _ ⟨w.heap.size + 1 + 1, 0, none⟩ l2).trans ((hb1.cell (p := ⟨w.heap.size + 1 + 1, 0, none⟩) (by simp only [World.size_alloc]; omega)).trans (by rw [World.cell?_alloc_at _ _ _ _ (by simp)]; rfl)))
        have z1 : w3.cell? ⟨w.heap.size + 1 + 1, 1, none⟩ = some (.int .i64 0) := (hb3.cell (p := ⟨w.heap.size + 1 + 1, 1, none⟩) (by simp only [World.size_alloc]; omega)).trans ((World.cell?_alloc_lt _ _ ⟨w.heap.size + 1 + 1, 1, none⟩ l2).trans ((hb1.cell (p := ⟨w.heap.size + 1 + 1, 1, none⟩) (by simp only [World.size_alloc]; omega)).trans (by rw [World.cell?_alloc_at _ _ _ _ (by simp)]; rfl)))
        have z2 : w3.cell? ⟨w.heap.size + 1 + 1, 2, none⟩ = some (.int .i64 0) := (hb3.cell (p := ⟨w.heap.size + 1 + 1, 2, none⟩) (by simp only [World.size_alloc]; omega)).trans ((World.cell?_alloc_lt _ _ ⟨w.heap.size + 1 + 1, 2, none⟩ l2).trans ((hb1.cell (p := ⟨w.heap.size + 1 + 1, 2, none⟩) (by simp only [World.size_alloc]; omega)).trans (by rw [World.cell?_alloc_at _ _ _ _ (by simp)]; rfl)))
        have z3 : w3.cell? ⟨w.heap.size + 1 + 1, 3, none⟩ = some (.int .i64 0) := (hb3.cell (p := ⟨w.heap.size + 1 + 1, 3, none⟩) (by simp only [World.size_alloc]; omega)).trans ((World.cell?_alloc_lt _ _ ⟨w.heap.size + 1 + 1, 3, none⟩ l2).trans ((hb1.cell (p := ⟨w.heap.size + 1 + 1, 3, none⟩) (by simp only [World.size_alloc]; omega)).trans (by rw [World.cell?_alloc_at _ _ _ _ (by simp)]; rfl)))
        go_wp2
        have hA := belowTo (a := w) (by go_grown) hb1
        have hB := belowTo (hA.alloc hA.size _) hb3
        have hS := hB.size
        refine bodyPost_ret (by simp [results, Tryd.results43, go_sem, z0, z1, z2, z3]; try rfl) rfl ?_
        clear hb1 hb3
        exact ⟨rfl, by go_grown⟩

/-! MatTurned -/
set_option maxHeartbeats 2000000 in
theorem turnedM_any (a b c d : Int) (w : World) (h : matB a b c d = true) :
    Calls Tryd.prog 67 #[.agg #[.int .i64 (a), .int .i64 (b), .int .i64 (c), .int .i64 (d)]] w fun e w' => e = .returned (.agg #[.int .i64 (detM a b c d * d), .int .i64 (-(detM a b c d * b)), .int .i64 (-(detM a b c d * c)), .int .i64 (detM a b c d * a)]) ∧ Below w.heap.size w w' := by
  obtain ⟨⟨ha, hb, hc, hd⟩, hk⟩ := mat_in h
  obtain ⟨_, _⟩ := one_bd hk
  obtain ⟨_, _⟩ := one_mul_bd hk ha
  obtain ⟨_, _⟩ := one_mul_bd hk hb
  obtain ⟨_, _⟩ := one_mul_bd hk hc
  obtain ⟨_, _⟩ := one_mul_bd hk hd
  have e1 : -detM a b c d * b = -(detM a b c d * b) := Int.neg_mul _ _
  have e2 : -detM a b c d * c = -(detM a b c d * c) := Int.neg_mul _ _
  clear h hk
  go_enter Tryd.func67, Tryd.ntmps67
  (go_wp2_with fail; go_call (matDet_any a b c d _ ha hb hc hd) as e w1 ⟨rfl, hb1⟩); obtain ⟨hc1, hf1⟩ := bcell hb1; have hz1 := bsize hb1
  go_wp2
  have hB := belowTo (a := w) (by go_grown) hb1; have hS := hB.size; (refine bodyPost_ret (by simp [results, Tryd.results67, go_sem, bcs hb1]; try rfl) rfl ?_); clear hb1
  exact ⟨rfl, by go_grown⟩
set_option maxHeartbeats 2000000 in
theorem matTurned_any (a b c d : Int) (w : World) (hg : EtOk w) :
    Calls Tryd.prog 37 #[.agg #[.int .i64 (a), .int .i64 (b), .int .i64 (c), .int .i64 (d)]] w fun e w' => e = .returned (.tuple #[.agg #[.int .i64 (gate (matB a b c d) (detM a b c d * d)), .int .i64 (gate (matB a b c d) (-(detM a b c d * b))), .int .i64 (gate (matB a b c d) (-(detM a b c d * c))), .int .i64 (gate (matB a b c d) (detM a b c d * a))], .bool (matB a b c d)]) ∧ Below w.heap.size w w' := by
  cases h : matB a b c d
  · go_enter Tryd.func37, Tryd.ntmps37
    (go_wp2_with fail; go_call (matCheck_out a b c d _ h) as e w1 ⟨rfl, hb1⟩); obtain ⟨hc1, hf1⟩ := bcell hb1; have hz1 := bsize hb1
    (go_wp2_with fail; go_call (none_hit _ _ (hg.below (belowTo (a := w) (by go_grown) hb1))) as e w2 ⟨rfl, hb2⟩); replace hb1 := belowTo hb1 hb2; clear hb2 hc1 hf1 hz1; obtain ⟨hc1, hf1⟩ := bcell hb1; have hz1 := bsize hb1
    go_wp2
    have hB := belowTo (a := w) (by go_grown) hb1; have hS := hB.size; (refine bodyPost_ret (by simp [results, Tryd.results37, go_sem, bcs hb1]; try rfl) rfl ?_); clear hb1
    exact ⟨rfl, by go_grown⟩
  · go_enter Tryd.func37, Tryd.ntmps37
    (go_wp2_with fail; go_call (matCheck_in a b c d _ h) as e w1 ⟨rfl, hb1⟩); obtain ⟨hc1, hf1⟩ := bcell hb1; have hz1 := bsize hb1
    (go_wp2_with fail; go_call (none_nil _) as e w2 ⟨rfl, hb2⟩); replace hb1 := belowTo hb1 hb2; clear hb2 hc1 hf1 hz1; obtain ⟨hc1, hf1⟩ := bcell hb1; have hz1 := bsize hb1
    (go_wp2_with fail; go_call (turnedM_any a b c d _ h) as e w2 ⟨rfl, hb2⟩); replace hb1 := belowTo hb1 hb2; clear hb2 hc1 hf1 hz1; obtain ⟨hc1, hf1⟩ := bcell hb1; have hz1 := bsize hb1
    go_wp2
    have hB := belowTo (a := w) (by go_grown) hb1; have hS := hB.size; (refine bodyPost_ret (by simp [results, Tryd.results37, go_sem, bcs hb1]; try rfl) rfl ?_); clear hb1
    exact ⟨rfl, by go_grown⟩
end Go.Proofs.YtnemmgnipmjpcaaDoor
