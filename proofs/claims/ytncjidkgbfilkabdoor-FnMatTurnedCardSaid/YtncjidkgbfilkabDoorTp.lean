import Derived.Test.YtncjidkgbfilkabDoorTn
namespace Go.Proofs.YtncjidkgbfilkabDoor
open Go.RowKit

/-! eqMat at one matrix twice -/
/-! checkAll over two matrices -/
set_option maxHeartbeats 1000000 in
theorem checkAll_mm_in (a b c d a2 b2 c2 d2 : Int) (B : Nat) (w : World) (h1 : matB a b c d = true) (h2 : matB a2 b2 c2 d2 = true)
    (c0 : w.cell? ⟨B, 0, none⟩ = some (.iface 52 (.agg #[.int .i64 (a), .int .i64 (b), .int .i64 (c), .int .i64 (d)]))) (c1 : w.cell? ⟨B, 1, none⟩ = some (.iface 52 (.agg #[.int .i64 (a2), .int .i64 (b2), .int .i64 (c2), .int .i64 (d2)]))) (hB : B < w.heap.size) :
    Calls Tryd.prog 59 #[.slice (some ⟨B, 0, none⟩) 2 2] w fun e w' => e = .returned .nilIface ∧ Below w.heap.size w w' := by
  go_enter Tryd.func59, Tryd.ntmps59
  go_wp2
  refine wp_loop_rounds 3 ?_
  rw [rounds_succ]
  go_wp2_with fail
  go_call (matCheck_in a b c d _ h1) as e w1 ⟨rfl, hb1⟩
  have c1' : w1.cell? ⟨B, 1, none⟩ = some (.iface 52 (.agg #[.int .i64 (a2), .int .i64 (b2), .int .i64 (c2), .int .i64 (d2)])) := (hb1.cell (p := ⟨B, 1, none⟩) hB).trans c1
  clear c0 c1
  go_wp2_with fail
  rw [rounds_succ]
  go_wp2_with fail
  go_call (matCheck_in a2 b2 c2 d2 _ h2) as e w2 ⟨rfl, hb2⟩
  clear c1'
  go_wp2_with fail
  rw [rounds_succ]
  go_wp2
  go_returns
  exact ⟨rfl, belowTo hb1 hb2⟩
set_option maxHeartbeats 1000000 in
theorem checkAll_mm_out (a b c d a2 b2 c2 d2 : Int) (B : Nat) (w : World) (h : mmOk a b c d a2 b2 c2 d2 = false)
    (c0 : w.cell? ⟨B, 0, none⟩ = some (.iface 52 (.agg #[.int .i64 (a), .int .i64 (b), .int .i64 (c), .int .i64 (d)]))) (c1 : w.cell? ⟨B, 1, none⟩ = some (.iface 52 (.agg #[.int .i64 (a2), .int .i64 (b2), .int .i64 (c2), .int .i64 (d2)]))) (hB : B < w.heap.size) :
    Calls Tryd.prog 59 #[.slice (some ⟨B, 0, none⟩) 2 2] w fun e w' => e = .returned (.iface 86 (.agg #[.string ⟨#[109, 97, 116, 114, 105, 120]⟩])) ∧ Below w.heap.size w w' := by
  unfold mmOk at h
  cases h1 : matB a b c d
  · clear h
    go_enter Tryd.func59, Tryd.ntmps59
    go_wp2
    refine wp_loop_rounds 3 ?_
    rw [rounds_succ]
    go_wp2_with fail
    go_call (matCheck_out a b c d _ h1) as e w1 ⟨rfl, hb1⟩
    clear c0 c1
    go_wp2
    go_returns
    exact ⟨rfl, hb1⟩
  · have h2 : matB a2 b2 c2 d2 = false := by simpa [h1] using h
    clear h
    go_enter Tryd.func59, Tryd.ntmps59
    go_wp2
    refine wp_loop_rounds 3 ?_
    rw [rounds_succ]
    go_wp2_with fail
    go_call (matCheck_in a b c d _ h1) as e w1 ⟨rfl, hb1⟩
    have c1' : w1.cell? ⟨B, 1, none⟩ = some (.iface 52 (.agg #[.int .i64 (a2), .int .i64 (b2), .int .i64 (c2), .int .i64 (d2)])) := (hb1.cell (p := ⟨B, 1, none⟩) hB).trans c1
    clear c0 c1
    go_wp2_with fail
    rw [rounds_succ]
    go_wp2_with fail
    go_call (matCheck_out a2 b2 c2 d2 _ h2) as e w2 ⟨rfl, hb2⟩
    clear c1'
    go_wp2
    go_returns
    exact ⟨rfl, belowTo hb1 hb2⟩

/-! MatTurned -/
set_option maxHeartbeats 2000000 in
theorem turnedM_any (a b c d : Int) (w : World) (h : matB a b c d = true) :
    Calls Tryd.prog 52 #[.agg #[.int .i64 (a), .int .i64 (b), .int .i64 (c), .int .i64 (d)]] w fun e w' => e = .returned (.agg #[.int .i64 (detM a b c d * d), .int .i64 (-(detM a b c d * b)), .int .i64 (-(detM a b c d * c)), .int .i64 (detM a b c d * a)]) ∧ Below w.heap.size w w' := by
  obtain ⟨⟨ha, hb, hc, hd⟩, hk⟩ := mat_in h
  obtain ⟨_, _⟩ := one_bd hk
  obtain ⟨_, _⟩ := one_mul_bd hk ha
  obtain ⟨_, _⟩ := one_mul_bd hk hb
  obtain ⟨_, _⟩ := one_mul_bd hk hc
  obtain ⟨_, _⟩ := one_mul_bd hk hd
  have e1 : -detM a b c d * b = -(detM a b c d * b) := Int.neg_mul _ _
  have e2 : -detM a b c d * c = -(detM a b c d * c) := Int.neg_mul _ _
  clear h hk
  go_enter Tryd.func52, Tryd.ntmps52
  (go_wp2_with fail; go_call (matDet_any a b c d _ ha hb hc hd) as e w1 ⟨rfl, hb1⟩); obtain ⟨hc1, hf1⟩ := bcell hb1; have hz1 := bsize hb1
  go_wp2
  have hB := belowTo (a := w) (by go_grown) hb1; have hS := hB.size; (refine bodyPost_ret (by simp [results, Tryd.results52, go_sem, bcs hb1]; try rfl) rfl ?_); clear hb1
  exact ⟨rfl, by go_grown⟩
set_option maxHeartbeats 2000000 in
theorem matTurned_any (a b c d : Int) (w : World) (hg : EtOk w) :
    Calls Tryd.prog 32 #[.agg #[.int .i64 (a), .int .i64 (b), .int .i64 (c), .int .i64 (d)]] w fun e w' => e = .returned (.tuple #[.agg #[.int .i64 (gate (matB a b c d) (detM a b c d * d)), .int .i64 (gate (matB a b c d) (-(detM a b c d * b))), .int .i64 (gate (matB a b c d) (-(detM a b c d * c))), .int .i64 (gate (matB a b c d) (detM a b c d * a))], .bool (matB a b c d)]) ∧ Below w.heap.size w w' := by
  cases h : matB a b c d
  · go_enter Tryd.func32, Tryd.ntmps32
    (go_wp2_with fail; go_call (matCheck_out a b c d _ h) as e w1 ⟨rfl, hb1⟩); obtain ⟨hc1, hf1⟩ := bcell hb1; have hz1 := bsize hb1
    (go_wp2_with fail; go_call (none_hit _ _ (hg.below (belowTo (a := w) (by go_grown) hb1))) as e w2 ⟨rfl, hb2⟩); replace hb1 := belowTo hb1 hb2; clear hb2 hc1 hf1 hz1; obtain ⟨hc1, hf1⟩ := bcell hb1; have hz1 := bsize hb1
    go_wp2
    have hB := belowTo (a := w) (by go_grown) hb1; have hS := hB.size; (refine bodyPost_ret (by simp [results, Tryd.results32, go_sem, bcs hb1]; try rfl) rfl ?_); clear hb1
    exact ⟨rfl, by go_grown⟩
  · go_enter Tryd.func32, Tryd.ntmps32
    (go_wp2_with fail; go_call (matCheck_in a b c d _ h) as e w1 ⟨rfl, hb1⟩); obtain ⟨hc1, hf1⟩ := bcell hb1; have hz1 := bsize hb1
    (go_wp2_with fail; go_call (none_nil _) as e w2 ⟨rfl, hb2⟩); replace hb1 := belowTo hb1 hb2; clear hb2 hc1 hf1 hz1; obtain ⟨hc1, hf1⟩ := bcell hb1; have hz1 := bsize hb1
    (go_wp2_with fail; go_call (turnedM_any a b c d _ h) as e w2 ⟨rfl, hb2⟩); replace hb1 := belowTo hb1 hb2; clear hb2 hc1 hf1 hz1; obtain ⟨hc1, hf1⟩ := bcell hb1; have hz1 := bsize hb1
    go_wp2
    have hB := belowTo (a := w) (by go_grown) hb1; have hS := hB.size; (refine bodyPost_ret (by simp [results, Tryd.results32, go_sem, bcs hb1]; try rfl) rfl ?_); clear hb1
    exact ⟨rfl, by go_grown⟩
set_option maxHeartbeats 2000000 in
theorem specMatTurned_any (a b c d : Int) (w : World) :
    Calls Tryd.prog 33 #[.agg #[.int .i64 (a), .int .i64 (b), .int .i64 (c), .int .i64 (d)]] w fun e w' => e = .returned (.tuple #[.agg #[.int .i64 (gate (matB a b c d) (detM a b c d * d)), .int .i64 (gate (matB a b c d) (-(detM a b c d * b))), .int .i64 (gate (matB a b c d) (-(detM a b c d * c))), .int .i64 (gate (matB a b c d) (detM a b c d * a))], .bool (matB a b c d)]) ∧ Below w.heap.size w w' := by
  cases h : matB a b c d
  · go_enter Tryd.func33, Tryd.ntmps33
    (go_wp2_with fail; go_call (specMatIn_any a b c d _) as e w1 ⟨rfl, hb1⟩); obtain ⟨hc1, hf1⟩ := bcell hb1; have hz1 := bsize hb1
    go_wp2
    have hB := belowTo (a := w) (by go_grown) hb1; have hS := hB.size; (refine bodyPost_ret (by simp [results, Tryd.results33, go_sem, bcs hb1]; try rfl) rfl ?_); clear hb1
    exact ⟨rfl, by go_grown⟩
  · obtain ⟨⟨ha, hb, hc, hd⟩, hk⟩ := mat_in h
    obtain ⟨⟨_, _⟩, _, _⟩ := det_bd ha hb hc hd
    obtain ⟨_, _⟩ := one_bd hk
    obtain ⟨_, _⟩ := one_mul_bd hk ha
    obtain ⟨_, _⟩ := one_mul_bd hk hb
    obtain ⟨_, _⟩ := one_mul_bd hk hc
    obtain ⟨_, _⟩ := one_mul_bd hk hd
    unfold detM at *
    clear hk
    go_enter Tryd.func33, Tryd.ntmps33
    (go_wp2_with fail; go_call (specMatIn_any a b c d _) as e w1 ⟨rfl, hb1⟩); obtain ⟨hc1, hf1⟩ := bcell hb1; have hz1 := bsize hb1
    go_wp2
    have hB := belowTo (a := w) (by go_grown) hb1; have hS := hB.size; (refine bodyPost_ret (by simp [results, Tryd.results33, go_sem, bcs hb1]; try rfl) rfl ?_); clear hb1
    exact ⟨by simp [gate], by go_grown⟩
end Go.Proofs.YtncjidkgbfilkabDoor
