/- The whole base: the program's ConeBase. -/
import Derived.Test.YtfgkpnpgemakdaaDoorVg
import Derived.Test.YtfgkpnpgemakdaaDoorVh
import Derived.Maps.OwnIn
namespace Go.Proofs.YtfgkpnpgemakdaaDoor
open Go.RowKit Go.Shelf

attribute [local go_sem] Oper.semAt_some

set_option maxHeartbeats 1000000 in
theorem base_in (n : Nat) (a b c d : Int) (w : World) :
    CallsIn Fence.wide n Tryd.prog 56 #[.agg #[.int .i64 (a), .int .i64 (b), .int .i64 (c), .int .i64 (d)]] w fun e w' => e = .returned (.func (.func 70) #[] #[.pointer (some ⟨w.heap.size, 0, none⟩)]) ∧ w' = w.alloc (.cells #[.int .i64 a, .int .i64 b, .int .i64 c, .int .i64 d] 56) := by
  refine callsIn_of_wp Tryd.func56 rfl trivial ?_ rfl
  simp only [Tryd.ntmps56, List.size_toArray, List.length_cons, List.length_nil, Nat.reduceAdd, Nat.reduceSub, Array.replicate_succ, Array.replicate_zero, List.push_toArray, List.append_toArray, List.nil_append, List.cons_append]
  gi_wp2
  go_ret
  exact ⟨rfl, rfl⟩

end Go.Proofs.YtfgkpnpgemakdaaDoor
