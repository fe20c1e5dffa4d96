import Derived.Test.YtncjidkgbfilkabKit
namespace Go.Proofs.Ytncjidkgbfilkab
open Go.RowKit

set_option maxHeartbeats 400000 in
theorem l6In_any (a lo hi : Int) (w : World) :
    Calls Try.prog 9 #[.int .i64 a, .int .i64 lo, .int .i64 hi] w fun e w' => e = .returned (.bool (decide (lo ≤ a) && decide (a ≤ hi))) ∧ w = w' := by
  go_enter Try.func9, Try.ntmps9
  go_wp2
  all_goals go_returns
  all_goals (refine ⟨ret_bool ?_, rfl⟩; rw [Bool.eq_iff_iff]; simp; try omega)
/-! the law of VecIn -/
end Go.Proofs.Ytncjidkgbfilkab
