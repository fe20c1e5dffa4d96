import Derived.Test.YtdkdpfpfefpphaaDoorKit
namespace Go.Proofs.YtdkdpfpfefpphaaDoor
open Go.RowKit

set_option maxHeartbeats 400000 in
theorem toVec_any (x y : Int) (w : World) :
    Calls Tryd.prog 22 #[.agg #[.int .i64 (x), .int .i64 (y)]] w fun e w' => e = .returned (.agg #[.int .i64 (x), .int .i64 (y)]) ∧ Below w.heap.size w w' := by
  go_enter Tryd.func22, Tryd.ntmps22
  go_wp2
  go_returns
  refine ⟨rfl, ?_⟩
  go_grown
set_option maxHeartbeats 400000 in
theorem inSize_any (a : Int) (w : World) :
    Calls Tryd.prog 56 #[.int .i64 a] w fun e w' => e = .returned (.bool (szB a)) ∧ w = w' := by
  unfold szB
  go_enter Tryd.func56, Tryd.ntmps56
  go_wp2
  all_goals go_returns
  all_goals (refine ⟨ret_bool ?_, rfl⟩; rw [Bool.eq_iff_iff]; simp; try omega)
set_option maxHeartbeats 400000 in
theorem l6In_any (a lo hi : Int) (w : World) :
    Calls Tryd.prog 74 #[.int .i64 a, .int .i64 lo, .int .i64 hi] w fun e w' => e = .returned (.bool (decide (lo ≤ a) && decide (a ≤ hi))) ∧ w = w' := by
  go_enter Tryd.func74, Tryd.ntmps74
  go_wp2
  all_goals go_returns
  all_goals (refine ⟨ret_bool ?_, rfl⟩; rw [Bool.eq_iff_iff]; simp; try omega)
set_option maxHeartbeats 400000 in
theorem l1Size_any (a : Int) (w : World) :
    Calls Tryd.prog 51 #[.int .i64 a] w fun e w' => e = .returned (.bool (szB a)) ∧ w = w' := by
  unfold szB
  go_enter Tryd.func51, Tryd.ntmps51
  go_wp2_with (go_at_call 74; refine (l6In_any _ _ _ _).mono ?_; rintro e w' ⟨rfl, rfl⟩)
  go_returns
  exact ⟨rfl, rfl⟩
set_option maxHeartbeats 400000 in
theorem specVecIn_any (x y : Int) (w : World) :
    Calls Tryd.prog 21 #[.agg #[.int .i64 (x), .int .i64 (y)]] w fun e w' => e = .returned (.bool (vecB x y)) ∧ Below w.heap.size w w' := by
  unfold vecB
  cases hx : szB x
  all_goals
    go_enter Tryd.func21, Tryd.ntmps21
    go_wp2_with (go_at_call 51; refine (l1Size_any _ _).mono ?_; rintro e w' ⟨rfl, rfl⟩)
    go_returns
    refine ⟨by simp, ?_⟩
    go_grown
set_option maxHeartbeats 400000 in
theorem check_in (x y : Int) (w : World) (h : vecB x y = true) :
    Calls Tryd.prog 52 #[.agg #[.int .i64 (x), .int .i64 (y)]] w fun e w' => e = .returned .nilIface ∧ Below w.heap.size w w' := by
  obtain ⟨hx, hy⟩ := vecB_true h
  clear h
  go_enter Tryd.func52, Tryd.ntmps52
  go_wp2_with (go_at_call 56; refine (inSize_any _ _).mono ?_; rintro e w' ⟨rfl, rfl⟩)
  go_returns
  refine ⟨rfl, ?_⟩
  go_grown
set_option maxHeartbeats 400000 in
theorem check_out (x y : Int) (w : World) (h : vecB x y = false) :
    Calls Tryd.prog 52 #[.agg #[.int .i64 (x), .int .i64 (y)]] w fun e w' => e = .returned (.iface 73 (.agg #[.string ⟨#[118, 101, 99, 116, 111, 114]⟩])) ∧ Below w.heap.size w w' := by
  rcases vecB_false h with hx | ⟨hx, hy⟩
  all_goals
    clear h
    go_enter Tryd.func52, Tryd.ntmps52
    go_wp2_with (go_at_call 56; refine (inSize_any _ _).mono ?_; rintro e w' ⟨rfl, rfl⟩)
    go_returns
    refine ⟨rfl, ?_⟩
    go_grown
set_option maxHeartbeats 400000 in
theorem vecIn_in (x y : Int) (w : World) (h : vecB x y = true) :
    Calls Tryd.prog 23 #[.agg #[.int .i64 (x), .int .i64 (y)]] w fun e w' => e = .returned (.bool true) ∧ Below w.heap.size w w' := by
  go_enter Tryd.func23, Tryd.ntmps23
  go_wp2_with fail
  refine (check_in x y _ h).mono ?_
  rintro e w1 ⟨rfl, hb1⟩
  go_wp2_with fail
  refine (none_nil _).mono ?_
  rintro e w2 ⟨rfl, hb2⟩
  go_wp2
  go_returns
  refine ⟨rfl, belowTo (belowTo (by go_grown) hb1) hb2⟩
set_option maxHeartbeats 400000 in
theorem vecIn_out (x y : Int) (w : World) (h : vecB x y = false) (hg : EtOk w) :
    Calls Tryd.prog 23 #[.agg #[.int .i64 (x), .int .i64 (y)]] w fun e w' => e = .returned (.bool false) ∧ Below w.heap.size w w' := by
  go_enter Tryd.func23, Tryd.ntmps23
  go_wp2_with fail
  refine (check_out x y _ h).mono ?_
  rintro e w1 ⟨rfl, hb1⟩
  go_wp2_with fail
  refine (none_hit _ _ (hg.below (belowTo (by go_grown) hb1))).mono ?_
  rintro e w2 ⟨rfl, hb2⟩
  go_wp2
  go_returns
  refine ⟨rfl, belowTo (belowTo (by go_grown) hb1) hb2⟩

/-! the law of VecIn -/
set_option maxHeartbeats 400000 in
theorem vecIn_any (x y : Int) (w : World) (hg : EtOk w) :
    Calls Tryd.prog 23 #[.agg #[.int .i64 (x), .int .i64 (y)]] w fun e w' => e = .returned (.bool (vecB x y)) ∧ Below w.heap.size w w' := by
  cases h : vecB x y
  · exact vecIn_out x y w h hg
  · exact vecIn_in x y w h
end Go.Proofs.YtdkdpfpfefpphaaDoor
