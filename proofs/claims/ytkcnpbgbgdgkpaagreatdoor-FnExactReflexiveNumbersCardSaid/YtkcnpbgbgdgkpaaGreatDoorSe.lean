/- Vectors compared by ==. -/
import Derived.Laws.StructEq
import Derived.Test.YtkcnpbgbgdgkpaaGreatDoorGb
namespace Go.Proofs.YtkcnpbgbgdgkpaaGreatDoor
open Go.RowKit

theorem run_eqV (x1 y1 x2 y2 : Int) (w : World) : (binOp .eql 41 (.agg #[.int .i64 (x1), .int .i64 (y1)]) (.agg #[.int .i64 (x2), .int .i64 (y2)])).run Tryz.prog w = .ok (.bool (decide (x1 = x2) && decide (y1 = y2))) w := by
  have hS : Tryz.prog.underlying 41 = some (.struct (Tryz.prog.fieldsOf 41)) := by kernel_rfl
  have hp : Tryz.prog.stoodInHeld 41 = false := by kernel_rfl
  have u3 := Tryz.underlying3
  have a3 := Tryz.isAgg3
  have z3 := Tryz.sizeOf3
  rw [run_eql_struct, show (10000 : Nat) = 9999 + 1 from rfl, run_equalIn_agg w 9999 41 _ _ hS hp]
  simp only [Program.fieldsOf, Tryz.underlying41]
  go_simp
  by_cases h1 : x1 = x2 <;> by_cases h2 : y1 = y2 <;> simp [h1, h2]
theorem run_neV (x1 y1 x2 y2 : Int) (w : World) : (binOp .neq 41 (.agg #[.int .i64 (x1), .int .i64 (y1)]) (.agg #[.int .i64 (x2), .int .i64 (y2)])).run Tryz.prog w = .ok (.bool (!(decide (x1 = x2) && decide (y1 = y2)))) w := by
  have hS : Tryz.prog.underlying 41 = some (.struct (Tryz.prog.fieldsOf 41)) := by kernel_rfl
  have hp : Tryz.prog.stoodInHeld 41 = false := by kernel_rfl
  have u3 := Tryz.underlying3
  have a3 := Tryz.isAgg3
  have z3 := Tryz.sizeOf3
  rw [run_neq_struct, show (10000 : Nat) = 9999 + 1 from rfl, run_equalIn_agg w 9999 41 _ _ hS hp]
  simp only [Program.fieldsOf, Tryz.underlying41]
  go_simp
  by_cases h1 : x1 = x2 <;> by_cases h2 : y1 = y2 <;> simp [h1, h2]
theorem guardV : Tryz.prog.eqGuardType Tryz.prog.depth 41 = false := by kernel_rfl
end Go.Proofs.YtkcnpbgbgdgkpaaGreatDoor
