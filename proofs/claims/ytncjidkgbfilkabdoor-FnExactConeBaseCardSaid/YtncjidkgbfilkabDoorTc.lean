import Derived.Test.YtncjidkgbfilkabDoorTa
import Derived.Test.YtncjidkgbfilkabDoorMa
namespace Go.Proofs.YtncjidkgbfilkabDoor
open Go.RowKit

/-! checkAll over two vectors -/
set_option maxHeartbeats 1000000 in
theorem checkAll_vv_in (x1 y1 x2 y2 : Int) (b : Nat) (w : World) (h1 : vecB x1 y1 = true) (h2 : vecB x2 y2 = true)
    (c0 : w.cell? ⟨b, 0, none⟩ = some (.iface 29 (.agg #[.int .i64 (x1), .int .i64 (y1)]))) (c1 : w.cell? ⟨b, 1, none⟩ = some (.iface 29 (.agg #[.int .i64 (x2), .int .i64 (y2)]))) (hb : b < w.heap.size) :
    Calls Tryd.prog 59 #[.slice (some ⟨b, 0, none⟩) 2 2] w fun e w' => e = .returned .nilIface ∧ Below w.heap.size w w' := by
  go_enter Tryd.func59, Tryd.ntmps59
  go_wp2
  refine wp_loop_rounds 3 ?_
  rw [rounds_succ]
  go_wp2_with fail
  refine (check_in x1 y1 _ h1).mono ?_
  rintro e w1 ⟨rfl, hb1⟩
  have c1' : w1.cell? ⟨b, 1, none⟩ = some (.iface 29 (.agg #[.int .i64 (x2), .int .i64 (y2)])) := (hb1.cell (p := ⟨b, 1, none⟩) hb).trans c1
  clear c0 c1
  go_wp2_with fail
  rw [rounds_succ]
  go_wp2_with fail
  refine (check_in x2 y2 _ h2).mono ?_
  rintro e w2 ⟨rfl, hb2⟩
  clear c1'
  go_wp2_with fail
  rw [rounds_succ]
  go_wp2
  go_returns
  exact ⟨rfl, belowTo hb1 hb2⟩
set_option maxHeartbeats 1000000 in
theorem checkAll_vv_out (x1 y1 x2 y2 : Int) (b : Nat) (w : World) (h : twoOk x1 y1 x2 y2 = false)
    (c0 : w.cell? ⟨b, 0, none⟩ = some (.iface 29 (.agg #[.int .i64 (x1), .int .i64 (y1)]))) (c1 : w.cell? ⟨b, 1, none⟩ = some (.iface 29 (.agg #[.int .i64 (x2), .int .i64 (y2)]))) (hb : b < w.heap.size) :
    Calls Tryd.prog 59 #[.slice (some ⟨b, 0, none⟩) 2 2] w fun e w' => e = .returned (.iface 86 (.agg #[.string ⟨#[118, 101, 99, 116, 111, 114]⟩])) ∧ Below w.heap.size w w' := by
  unfold twoOk at h
  cases h1 : vecB x1 y1
  · clear h
    go_enter Tryd.func59, Tryd.ntmps59
    go_wp2
    refine wp_loop_rounds 3 ?_
    rw [rounds_succ]
    go_wp2_with fail
    refine (check_out x1 y1 _ h1).mono ?_
    rintro e w1 ⟨rfl, hb1⟩
    clear c0 c1
    go_wp2
    go_returns
    exact ⟨rfl, hb1⟩
  · have h2 : vecB x2 y2 = false := by simpa [h1] using h
    clear h
    go_enter Tryd.func59, Tryd.ntmps59
    go_wp2
    refine wp_loop_rounds 3 ?_
    rw [rounds_succ]
    go_wp2_with fail
    refine (check_in x1 y1 _ h1).mono ?_
    rintro e w1 ⟨rfl, hb1⟩
    have c1' : w1.cell? ⟨b, 1, none⟩ = some (.iface 29 (.agg #[.int .i64 (x2), .int .i64 (y2)])) := (hb1.cell (p := ⟨b, 1, none⟩) hb).trans c1
    clear c0 c1
    go_wp2_with fail
    rw [rounds_succ]
    go_wp2_with fail
    refine (check_out x2 y2 _ h2).mono ?_
    rintro e w2 ⟨rfl, hb2⟩
    clear c1'
    go_wp2
    go_returns
    exact ⟨rfl, belowTo hb1 hb2⟩

/-! made, l1Done -/
end Go.Proofs.YtncjidkgbfilkabDoor
