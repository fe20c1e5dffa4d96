import Derived.Test.YtdkdpfpfefpphabDoorKit
namespace Go.Proofs.YtdkdpfpfefpphabDoor
open Go.RowKit

set_option maxHeartbeats 400000 in
theorem inSize_any (a : Int) (w : World) :
    Calls Tryd.prog 21 #[.int .i64 a] w fun e w' => e = .returned (.bool (szB a)) ∧ w = w' := by
  unfold szB
  go_enter Tryd.func21, Tryd.ntmps21
  go_wp2
  all_goals go_returns
  all_goals (refine ⟨ret_bool ?_, rfl⟩; rw [Bool.eq_iff_iff]; simp; try omega)
set_option maxHeartbeats 400000 in
theorem l6In_any (a lo hi : Int) (w : World) :
    Calls Tryd.prog 23 #[.int .i64 a, .int .i64 lo, .int .i64 hi] w fun e w' => e = .returned (.bool (decide (lo ≤ a) && decide (a ≤ hi))) ∧ w = w' := by
  go_enter Tryd.func23, Tryd.ntmps23
  go_wp2
  all_goals go_returns
  all_goals (refine ⟨ret_bool ?_, rfl⟩; rw [Bool.eq_iff_iff]; simp; try omega)
set_option maxHeartbeats 400000 in
theorem l1Size_any (a : Int) (w : World) :
    Calls Tryd.prog 18 #[.int .i64 a] w fun e w' => e = .returned (.bool (szB a)) ∧ w = w' := by
  unfold szB
  go_enter Tryd.func18, Tryd.ntmps18
  go_wp2_with (go_at_call 23; refine (l6In_any _ _ _ _).mono ?_; rintro e w' ⟨rfl, rfl⟩)
  go_returns
  exact ⟨rfl, rfl⟩
set_option maxHeartbeats 400000 in
theorem check_in (x y : Int) (w : World) (h : vecB x y = true) :
    Calls Tryd.prog 49 #[.agg #[.int .i64 (x), .int .i64 (y)]] w fun e w' => e = .returned .nilIface ∧ Below w.heap.size w w' := by
  obtain ⟨hx, hy⟩ := vecB_true h
  clear h
  go_enter Tryd.func49, Tryd.ntmps49
  go_wp2_with (go_at_call 21; refine (inSize_any _ _).mono ?_; rintro e w' ⟨rfl, rfl⟩)
  go_returns
  refine ⟨rfl, ?_⟩
  go_grown
set_option maxHeartbeats 400000 in
theorem check_out (x y : Int) (w : World) (h : vecB x y = false) :
    Calls Tryd.prog 49 #[.agg #[.int .i64 (x), .int .i64 (y)]] w fun e w' => e = .returned (.iface 42 (.agg #[.string ⟨#[118, 101, 99, 116, 111, 114]⟩])) ∧ Below w.heap.size w w' := by
  rcases vecB_false h with hx | ⟨hx, hy⟩
  all_goals
    clear h
    go_enter Tryd.func49, Tryd.ntmps49
    go_wp2_with (go_at_call 21; refine (inSize_any _ _).mono ?_; rintro e w' ⟨rfl, rfl⟩)
    go_returns
    refine ⟨rfl, ?_⟩
    go_grown
/-! the law of VecIn -/
end Go.Proofs.YtdkdpfpfefpphabDoor
