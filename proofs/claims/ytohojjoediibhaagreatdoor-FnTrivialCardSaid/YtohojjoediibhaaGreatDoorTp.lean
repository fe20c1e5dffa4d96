import Derived.Test.YtohojjoediibhaaGreatDoorB2
namespace Go.Proofs.YtohojjoediibhaaGreatDoor
open Go.RowKit

/-! eqMat at one matrix twice -/
/-! checkAll over two matrices -/
set_option maxHeartbeats 1000000 in
theorem checkAll_mm_in (a b c d a2 b2 c2 d2 : Int) (B : Nat) (w : World) (h1 : matB a b c d = true) (h2 : matB a2 b2 c2 d2 = true)
    (c0 : w.cell? ⟨B, 0, none⟩ = some (.iface 53 (.agg #[.int .i64 (a), .int .i64 (b), .int .i64 (c), .int .i64 (d)]))) (c1 : w.cell? ⟨B, 1, none⟩ = some (.iface 53 (.agg #[.int .i64 (a2), .int .i64 (b2), .int .i64 (c2), .int .i64 (d2)]))) (hB : B < w.heap.size) :
    Calls Tryz.prog 213 #[.slice (some ⟨B, 0, none⟩) 2 2] w fun e w' => e = .returned .nilIface ∧ Below w.heap.size w w' := by
  go_enter Tryz.func213, Tryz.ntmps213
  go_wp2
  refine wp_loop_rounds 3 ?_
  rw [rounds_succ]
  go_wp2_with fail
  go_call (matCheck_in a b c d _ h1) as e w1 ⟨rfl, hb1⟩
  have c1' : w1.cell? ⟨B, 1, none⟩ = some (.iface 53 (.agg #[.int .i64 (a2), .int .i64 (b2), .int .i64 (c2), .int .i64 (d2)])) := (hb1.cell (p := ⟨B, 1, none⟩) hB).trans c1
  clear c0 c1
  go_wp2_with fail
  rw [rounds_succ]
  go_wp2_with fail
  go_call (matCheck_in a2 b2 c2 d2 _ h2) as e w2 ⟨rfl, hb2⟩
  clear c1'
  go_wp2_with fail
  rw [rounds_succ]
  go_wp2
  go_returns
  exact ⟨rfl, belowTo hb1 hb2⟩
set_option maxHeartbeats 1000000 in
theorem checkAll_mm_out (a b c d a2 b2 c2 d2 : Int) (B : Nat) (w : World) (h : mmOk a b c d a2 b2 c2 d2 = false)
    (c0 : w.cell? ⟨B, 0, none⟩ = some (.iface 53 (.agg #[.int .i64 (a), .int .i64 (b), .int .i64 (c), .int .i64 (d)]))) (c1 : w.cell? ⟨B, 1, none⟩ = some (.iface 53 (.agg #[.int .i64 (a2), .int .i64 (b2), .int .i64 (c2), .int .i64 (d2)]))) (hB : B < w.heap.size) :
    Calls Tryz.prog 213 #[.slice (some ⟨B, 0, none⟩) 2 2] w fun e w' => e = .returned (.iface 116 (.agg #[.string ⟨#[109, 97, 116, 114, 105, 120]⟩])) ∧ Below w.heap.size w w' := by
  unfold mmOk at h
  cases h1 : matB a b c d
  · clear h
    go_enter Tryz.func213, Tryz.ntmps213
    go_wp2
    refine wp_loop_rounds 3 ?_
    rw [rounds_succ]
    go_wp2_with fail
    go_call (matCheck_out a b c d _ h1) as e w1 ⟨rfl, hb1⟩
    clear c0 c1
    go_wp2
    go_returns
    exact ⟨rfl, hb1⟩
  · have h2 : matB a2 b2 c2 d2 = false := by simpa [h1] using h
    clear h
    go_enter Tryz.func213, Tryz.ntmps213
    go_wp2
    refine wp_loop_rounds 3 ?_
    rw [rounds_succ]
    go_wp2_with fail
    go_call (matCheck_in a b c d _ h1) as e w1 ⟨rfl, hb1⟩
    have c1' : w1.cell? ⟨B, 1, none⟩ = some (.iface 53 (.agg #[.int .i64 (a2), .int .i64 (b2), .int .i64 (c2), .int .i64 (d2)])) := (hb1.cell (p := ⟨B, 1, none⟩) hB).trans c1
    clear c0 c1
    go_wp2_with fail
    rw [rounds_succ]
    go_wp2_with fail
    go_call (matCheck_out a2 b2 c2 d2 _ h2) as e w2 ⟨rfl, hb2⟩
    clear c1'
    go_wp2
    go_returns
    exact ⟨rfl, belowTo hb1 hb2⟩

/-! MatTurned -/
end Go.Proofs.YtohojjoediibhaaGreatDoor
