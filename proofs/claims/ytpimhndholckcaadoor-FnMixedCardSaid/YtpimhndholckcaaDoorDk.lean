/- The draws of chapter 2: primitive vectors, cones. -/
import Derived.Test.YtpimhndholckcaaDoorBc
import Derived.Test.YtpimhndholckcaaDoorBs
import Derived.Test.YtpimhndholckcaaDoorB2
import Derived.Test.YtpimhndholckcaaDoorB1
import Derived.Laws.StructEq
namespace Go.Proofs.YtpimhndholckcaaDoor
open Go.RowKit

theorem Kept.mono {n0 n1 B : Nat} {w w' : World} (h : Kept n1 B w w') (hn : n0 ≤ n1) : Kept n0 B w w' :=
  ⟨fun b o h1 h2 => h.1 b o (Nat.lt_of_lt_of_le h1 hn) h2, h.2⟩
def DrewPrim (w : World) (B : Nat) (a : Option Addr) (len cap : Nat) (p : Int) (e : Ending) (w' : World) : Prop :=
  ∃ x y p' : Int, e = .returned (.agg #[.int .i64 (x), .int .i64 (y)]) ∧ (-6 ≤ x ∧ x ≤ 6) ∧ (-6 ≤ y ∧ y ≤ 6) ∧ p ≤ p' ∧ p' ≤ p + 10 ∧ Reads w' B a len cap p' ∧ Below B w w' ∧ Kept w.heap.size B w w'
theorem six_vec {x y : Int} (h1 : -6 ≤ x ∧ x ≤ 6) (h2 : -6 ≤ y ∧ y ≤ 6) : vecB x y = true := by
  unfold vecB
  rw [szB_mk (by omega) (by omega), szB_mk (by omega) (by omega)]
  rfl
def DrewCone (w : World) (B : Nat) (a : Option Addr) (len cap : Nat) (p : Int) (e : Ending) (w' : World) : Prop :=
  ∃ x y z u p' : Int, e = .returned (.agg #[.int .i64 (x), .int .i64 (y), .int .i64 (z), .int .i64 (u)]) ∧ (-6 ≤ x ∧ x ≤ 6) ∧ (-6 ≤ y ∧ y ≤ 6) ∧ (-6 ≤ z ∧ z ≤ 6) ∧ (-6 ≤ u ∧ u ≤ 6) ∧ p' ≤ p + 30 ∧ Reads w' B a len cap p' ∧ Below B w w' ∧ Kept w.heap.size B w w'
end Go.Proofs.YtpimhndholckcaaDoor
