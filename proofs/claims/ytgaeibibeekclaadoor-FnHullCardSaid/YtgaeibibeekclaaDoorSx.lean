/- Two vectors compared by ==. -/
import Derived.Test.YtgaeibibeekclaaDoorB1
import Derived.Laws.StructEq
namespace Go.Proofs.YtgaeibibeekclaaDoor
open Go.RowKit

theorem run_eqSame (x y : Int) (w : World) : (binOp .eql 31 (.agg #[.int .i64 (x), .int .i64 (y)]) (.agg #[.int .i64 (x), .int .i64 (y)])).run Tryd.prog w = .ok (.bool true) w := by
  have hS : Tryd.prog.underlying 31 = some (.struct (Tryd.prog.fieldsOf 31)) := by kernel_rfl
  have hp : Tryd.prog.stoodInHeld 31 = false := by kernel_rfl
  have u3 := Tryd.underlying3
  have a3 := Tryd.isAgg3
  have z3 := Tryd.sizeOf3
  rw [run_eql_struct, show (10000 : Nat) = 9999 + 1 from rfl, run_equalIn_agg w 9999 31 _ _ hS hp]
  simp only [Program.fieldsOf, Tryd.underlying31]
  go_simp
theorem run_eqDiff (x y z u : Int) (w : World) (h : ¬ (x = z ∧ y = u)) : (binOp .eql 31 (.agg #[.int .i64 (x), .int .i64 (y)]) (.agg #[.int .i64 (z), .int .i64 (u)])).run Tryd.prog w = .ok (.bool false) w := by
  have hS : Tryd.prog.underlying 31 = some (.struct (Tryd.prog.fieldsOf 31)) := by kernel_rfl
  have hp : Tryd.prog.stoodInHeld 31 = false := by kernel_rfl
  have u3 := Tryd.underlying3
  have a3 := Tryd.isAgg3
  have z3 := Tryd.sizeOf3
  rw [run_eql_struct, show (10000 : Nat) = 9999 + 1 from rfl, run_equalIn_agg w 9999 31 _ _ hS hp]
  simp only [Program.fieldsOf, Tryd.underlying31]
  by_cases hx : x = z
  · have hy : (y == u) = false := by simpa using fun e => h ⟨hx, e⟩
    subst hx
    go_simp
  · have hx : (x == z) = false := by simpa using hx
    go_simp
end Go.Proofs.YtgaeibibeekclaaDoor
