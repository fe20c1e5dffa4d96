/- Vectors compared by ==. -/
import Derived.Laws.StructEq
import Derived.Test.YtdlofnkimikaiaaDoorGb
namespace Go.Proofs.YtdlofnkimikaiaaDoor
open Go.RowKit

theorem run_eqV (x1 y1 x2 y2 : Int) (w : World) : (binOp .eql 27 (.agg #[.int .i64 (x1), .int .i64 (y1)]) (.agg #[.int .i64 (x2), .int .i64 (y2)])).run Tryd.prog w = .ok (.bool (decide (x1 = x2) && decide (y1 = y2))) w := by
  have hS : Tryd.prog.underlying 27 = some (.struct (Tryd.prog.fieldsOf 27)) := by kernel_rfl
  have hp : Tryd.prog.stoodInHeld 27 = false := by kernel_rfl
  have u3 := Tryd.underlying3
  have a3 := Tryd.isAgg3
  have z3 := Tryd.sizeOf3
  rw [run_eql_struct, show (10000 : Nat) = 9999 + 1 from rfl, run_equalIn_agg w 9999 27 _ _ hS hp]
  simp only [Program.fieldsOf, Tryd.underlying27]
  go_simp
  by_cases h1 : x1 = x2 <;> by_cases h2 : y1 = y2 <;> simp [h1, h2]
theorem run_neV (x1 y1 x2 y2 : Int) (w : World) : (binOp .neq 27 (.agg #[.int .i64 (x1), .int .i64 (y1)]) (.agg #[.int .i64 (x2), .int .i64 (y2)])).run Tryd.prog w = .ok (.bool (!(decide (x1 = x2) && decide (y1 = y2)))) w := by
  have hS : Tryd.prog.underlying 27 = some (.struct (Tryd.prog.fieldsOf 27)) := by kernel_rfl
  have hp : Tryd.prog.stoodInHeld 27 = false := by kernel_rfl
  have u3 := Tryd.underlying3
  have a3 := Tryd.isAgg3
  have z3 := Tryd.sizeOf3
  rw [run_neq_struct, show (10000 : Nat) = 9999 + 1 from rfl, run_equalIn_agg w 9999 27 _ _ hS hp]
  simp only [Program.fieldsOf, Tryd.underlying27]
  go_simp
  by_cases h1 : x1 = x2 <;> by_cases h2 : y1 = y2 <;> simp [h1, h2]
theorem guardV : Tryd.prog.eqGuardType Tryd.prog.depth 27 = false := by kernel_rfl
end Go.Proofs.YtdlofnkimikaiaaDoor
