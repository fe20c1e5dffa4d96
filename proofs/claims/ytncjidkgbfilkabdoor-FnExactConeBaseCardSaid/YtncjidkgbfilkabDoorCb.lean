/- Chapter 2: the index, what a cone has, parts, duals, moved cones: both sides. -/
import Derived.Test.YtncjidkgbfilkabDoorCa
namespace Go.Proofs.YtncjidkgbfilkabDoor
open Go.RowKit

set_option maxHeartbeats 1000000 in
theorem checkAll_cv_in (a b c d x y : Int) (B : Nat) (w : World) (h1 : coneB a b c d = true) (h2 : vecB x y = true)
    (c0 : w.cell? ⟨B, 0, none⟩ = some (.iface 31 (.agg #[.int .i64 (a), .int .i64 (b), .int .i64 (c), .int .i64 (d)]))) (c1 : w.cell? ⟨B, 1, none⟩ = some (.iface 29 (.agg #[.int .i64 (x), .int .i64 (y)]))) (hB : B < w.heap.size) :
    Calls Tryd.prog 59 #[.slice (some ⟨B, 0, none⟩) 2 2] w fun e w' => e = .returned .nilIface ∧ Below w.heap.size w w' := by
  go_enter Tryd.func59, Tryd.ntmps59
  go_wp2
  refine wp_loop_rounds 3 ?_
  rw [rounds_succ]
  go_wp2_with fail
  go_call (coneCheck_in a b c d _ h1) as e w1 ⟨rfl, hb1⟩
  have c1' : w1.cell? ⟨B, 1, none⟩ = some (.iface 29 (.agg #[.int .i64 (x), .int .i64 (y)])) := (hb1.cell (p := ⟨B, 1, none⟩) hB).trans c1
  clear c0 c1
  go_wp2_with fail
  rw [rounds_succ]
  go_wp2_with fail
  go_call (check_in x y _ h2) as e w2 ⟨rfl, hb2⟩
  clear c1'
  go_wp2_with fail
  rw [rounds_succ]
  go_wp2
  go_returns
  exact ⟨rfl, belowTo hb1 hb2⟩
set_option maxHeartbeats 1000000 in
theorem checkAll_cv_out (a b c d x y : Int) (B : Nat) (w : World) (h : cvOk a b c d x y = false)
    (c0 : w.cell? ⟨B, 0, none⟩ = some (.iface 31 (.agg #[.int .i64 (a), .int .i64 (b), .int .i64 (c), .int .i64 (d)]))) (c1 : w.cell? ⟨B, 1, none⟩ = some (.iface 29 (.agg #[.int .i64 (x), .int .i64 (y)]))) (hB : B < w.heap.size) :
    Calls Tryd.prog 59 #[.slice (some ⟨B, 0, none⟩) 2 2] w fun e w' => IsNone e ∧ Below w.heap.size w w' := by
  unfold cvOk at h
  cases h1 : coneB a b c d
  · clear h
    go_enter Tryd.func59, Tryd.ntmps59
    go_wp2
    refine wp_loop_rounds 3 ?_
    rw [rounds_succ]
    go_wp2_with fail
    go_call (coneCheck_out a b c d _ h1) as e w1 ⟨⟨s, rfl⟩, hb1⟩
    clear c0 c1
    go_wp2
    go_returns
    exact ⟨⟨_, rfl⟩, hb1⟩
  · have h2 : vecB x y = false := by simpa [h1] using h
    clear h
    go_enter Tryd.func59, Tryd.ntmps59
    go_wp2
    refine wp_loop_rounds 3 ?_
    rw [rounds_succ]
    go_wp2_with fail
    go_call (coneCheck_in a b c d _ h1) as e w1 ⟨rfl, hb1⟩
    have c1' : w1.cell? ⟨B, 1, none⟩ = some (.iface 29 (.agg #[.int .i64 (x), .int .i64 (y)])) := (hb1.cell (p := ⟨B, 1, none⟩) hB).trans c1
    clear c0 c1
    go_wp2_with fail
    rw [rounds_succ]
    go_wp2_with fail
    go_call (check_out x y _ h2) as e w2 ⟨rfl, hb2⟩
    clear c1'
    go_wp2
    go_returns
    exact ⟨⟨_, rfl⟩, belowTo hb1 hb2⟩
set_option maxHeartbeats 1000000 in
theorem checkAll_cm_in (a b c d e f g h0 : Int) (B : Nat) (w : World) (h1 : coneB a b c d = true) (h2 : matB e f g h0 = true)
    (c0 : w.cell? ⟨B, 0, none⟩ = some (.iface 31 (.agg #[.int .i64 (a), .int .i64 (b), .int .i64 (c), .int .i64 (d)]))) (c1 : w.cell? ⟨B, 1, none⟩ = some (.iface 52 (.agg #[.int .i64 (e), .int .i64 (f), .int .i64 (g), .int .i64 (h0)]))) (hB : B < w.heap.size) :
    Calls Tryd.prog 59 #[.slice (some ⟨B, 0, none⟩) 2 2] w fun e w' => e = .returned .nilIface ∧ Below w.heap.size w w' := by
  go_enter Tryd.func59, Tryd.ntmps59
  go_wp2
  refine wp_loop_rounds 3 ?_
  rw [rounds_succ]
  go_wp2_with fail
  go_call (coneCheck_in a b c d _ h1) as e w1 ⟨rfl, hb1⟩
  have c1' : w1.cell? ⟨B, 1, none⟩ = some (.iface 52 (.agg #[.int .i64 (e), .int .i64 (f), .int .i64 (g), .int .i64 (h0)])) := (hb1.cell (p := ⟨B, 1, none⟩) hB).trans c1
  clear c0 c1
  go_wp2_with fail
  rw [rounds_succ]
  go_wp2_with fail
  go_call (matCheck_in e f g h0 _ h2) as e w2 ⟨rfl, hb2⟩
  clear c1'
  go_wp2_with fail
  rw [rounds_succ]
  go_wp2
  go_returns
  exact ⟨rfl, belowTo hb1 hb2⟩
set_option maxHeartbeats 1000000 in
theorem checkAll_cm_out (a b c d e f g h0 : Int) (B : Nat) (w : World) (h : cmOk a b c d e f g h0 = false)
    (c0 : w.cell? ⟨B, 0, none⟩ = some (.iface 31 (.agg #[.int .i64 (a), .int .i64 (b), .int .i64 (c), .int .i64 (d)]))) (c1 : w.cell? ⟨B, 1, none⟩ = some (.iface 52 (.agg #[.int .i64 (e), .int .i64 (f), .int .i64 (g), .int .i64 (h0)]))) (hB : B < w.heap.size) :
    Calls Tryd.prog 59 #[.slice (some ⟨B, 0, none⟩) 2 2] w fun e w' => IsNone e ∧ Below w.heap.size w w' := by
  unfold cmOk at h
  cases h1 : coneB a b c d
  · clear h
    go_enter Tryd.func59, Tryd.ntmps59
    go_wp2
    refine wp_loop_rounds 3 ?_
    rw [rounds_succ]
    go_wp2_with fail
    go_call (coneCheck_out a b c d _ h1) as e w1 ⟨⟨s, rfl⟩, hb1⟩
    clear c0 c1
    go_wp2
    go_returns
    exact ⟨⟨_, rfl⟩, hb1⟩
  · have h2 : matB e f g h0 = false := by simpa [h1] using h
    clear h
    go_enter Tryd.func59, Tryd.ntmps59
    go_wp2
    refine wp_loop_rounds 3 ?_
    rw [rounds_succ]
    go_wp2_with fail
    go_call (coneCheck_in a b c d _ h1) as e w1 ⟨rfl, hb1⟩
    have c1' : w1.cell? ⟨B, 1, none⟩ = some (.iface 52 (.agg #[.int .i64 (e), .int .i64 (f), .int .i64 (g), .int .i64 (h0)])) := (hb1.cell (p := ⟨B, 1, none⟩) hB).trans c1
    clear c0 c1
    go_wp2_with fail
    rw [rounds_succ]
    go_wp2_with fail
    go_call (matCheck_out e f g h0 _ h2) as e w2 ⟨rfl, hb2⟩
    clear c1'
    go_wp2
    go_returns
    exact ⟨⟨_, rfl⟩, belowTo hb1 hb2⟩

/-! ConeIndex -/
/-! what a cone has -/
theorem cv_in {a b c d x y : Int} (h : cvOk a b c d x y = true) : coneB a b c d = true ∧ vecB x y = true := by simpa [cvOk] using h
/-! ConeParts -/
theorem has_in {a b c d x y : Int} (h : hasOk a b c d x y = true) : cvOk a b c d x y = true ∧ inB a b c d x y = true := by simpa [hasOk] using h
end Go.Proofs.YtncjidkgbfilkabDoor
