/- Slices of vectors: measured, marked: from whatever number. -/
import Derived.Test.YtgaeibibeekclaaDoorVk
import Derived.Test.YtgaeibibeekclaaDoorGb
namespace Go.Proofs.YtgaeibibeekclaaDoor
open Go.RowKit

set_option maxHeartbeats 1000000 in
theorem szVecS_from (a : Option Addr) (n c : Nat) (k : Int) (w : World) (hn : n ≤ 9000000000000000000) (h0 : 0 ≤ k) (h1 : k ≤ 1048576) :
    Calls Tryd.prog 27 #[.slice a n c, .int .i64 k] w fun e w' => e = .returned (.int .i64 (if (n : Int) ≤ k then k - (n : Int) else -1)) ∧ w = w' := by
  have q1 : IntKind.i64.wrap (k - (n : Int)) = k - (n : Int) := by rw [IntKind.wrap_i64]; omega
  by_cases h : (n : Int) ≤ k
  · have j1 : ¬ k - (n : Int) < 0 := by omega
    rw [if_pos h]
    go_enter Tryd.func27, Tryd.ntmps27
    go_wp2
    go_returns
    exact ⟨rfl, rfl⟩
  · have j1 : k - (n : Int) < 0 := by omega
    rw [if_neg h]
    go_enter Tryd.func27, Tryd.ntmps27
    go_wp2
    go_returns
    exact ⟨rfl, rfl⟩
theorem szVecS_max (a : Option Addr) (n c : Nat) (k : Int) (w : World) (hn : n ≤ 9223372036854775807) (h0 : 0 ≤ k) (h1 : k ≤ 1048576) :
    Calls Tryd.prog 27 #[.slice a n c, .int .i64 k] w fun e w' => e = .returned (.int .i64 (if (n : Int) ≤ k then k - (n : Int) else -1)) ∧ w = w' := by
  have q1 : IntKind.i64.wrap (k - (n : Int)) = k - (n : Int) := by rw [IntKind.wrap_i64]; omega
  by_cases h : (n : Int) ≤ k
  · exact szVecS_from a n c k w (by omega) h0 h1
  · have j1 : k - (n : Int) < 0 := by omega
    rw [if_neg h]
    go_enter Tryd.func27, Tryd.ntmps27
    go_wp2
    go_returns
    exact ⟨rfl, rfl⟩
end Go.Proofs.YtgaeibibeekclaaDoor
