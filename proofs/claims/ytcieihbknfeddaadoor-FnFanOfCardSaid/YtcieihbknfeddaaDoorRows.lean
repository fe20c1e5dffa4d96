/-
  NARROWER THAN 'FOR EVERY INPUT', by the rows' own cells (each row's printed sentence says how): FnMove: laid · FnExactFanIn: laid · FnExactFanTidy: laid · FnExactFanOf: laid · FnExactFanSmooth: laid · FnExactFanCone: laid · FnExactFanWhere: laid · FnExactFanNumbers: laid · FnExactFanBlow: laid · FnExactFanDown: laid · FnExactFanLeast: laid · FnExactFanResolve: laid · FnExactFanMove: laid · FnExactFanKind: laid · FnExactFanBuild: laid · FnFanOf: laid.
  DERIVED. THE GIVEN ROWS OF THIS SEAT. 16 by the template 'for every input the law returns true; each argument reads behind the call as it read before'; 0 by the template 'total and deterministic' (their statements: YtcieihbknfeddaaDoorTotals.lean).
  GIVEN WITH THE SEED: the statements are not yours to turn. If you find one false, say at which input.
  Laid BY PROGRAM, IN A SANDBOX (cutbox-rows.mjs): the forced cells as the released guide's own fill.sh prints them over the translation 6d3276ff5f0c35fa… (all of the seat's roots in one cut). By AI agents, Wed Nov 11 2026. No macro, syntax, notation, axiom, sorry.
-/
import Derived.Test.YtcieihbknfeddaaDoorChecked
import GoSem.Claim
import GoSem.ClaimJoined
import GoSem.ClaimMapViews
import Derived.JoinedTies
import Derived.KernelRfl
namespace Go.Proofs.YtcieihbknfeddaaDoor
/- THE CELL 'sum', in the pinned program and in every row, IS THE sha256 OF THE DUMP (.gsa) THAT YtcieihbknfeddaaDoorProg.lean LOADS. Nothing in Lean hashes anything: it is a label: what it is worth is what the hold of that sum in a sandbox is worth. -/
noncomputable def Tryd.pinned : Pinned := { name := "ytcieihbknfeddaadoor", sum := "6d3276ff5f0c35faa8427d3f93b6daa28a2cffd897601152a9eed1079a81e31e", checked := Tryd.checked }
namespace Rows
def none {H : Type} : Left H := { results := [], args := [] }

/- WHAT THE LISTED PACKAGE-LEVEL VARIABLES READ AS WHEN THE CALL BEGINS. Each datum BY PROGRAM (the guide's laid-datum.mjs) off the statement by which the dump's own 'gosem.cut.vars' lays the variable. In a bare row this is a premise. The card (YtcieihbknfeddaaDoorCards.lean) ties it to the program's text. -/
def laid_errors_errorType {H : Type} : DataW H := .iface "internal/reflectlite.rtype" (.agg [.ptr (.lit (.string [101, 114, 114, 111, 114]))])

/-- 'laws.FnMove': WHATEVER THE INPUT: true; the input reads as it did. -/
def fnMoveSpec : ChangeSpec := { name := "fnMove", fn := fun _ => fun
  | [d] => { results := [.lit (.bool true)], args := [d] }
  | _ => none }
def fnMoveRow : OpenClaim := { program := "ytcieihbknfeddaadoor", sum := "6d3276ff5f0c35faa8427d3f93b6daa28a2cffd897601152a9eed1079a81e31e", func := "loop.example/toricfans/laws.FnMove", spec := "fnMove", inPlace := ["internal/reflectlite.ValueOf", "(internal/reflectlite.Value).Type", "(internal/reflectlite.Value).IsNil", "internal/reflectlite.TypeOf", "(internal/reflectlite.Value).Elem", "(internal/reflectlite.Value).Set"], unfollowed := true, recurses := true, named := ["errors.errorType"], apart := false, laid := [("errors.errorType", laid_errors_errorType)] }
def FnMoveSaid : Prop := fnMoveRow.holds Tryd.pinned (OpenSpec.ofChange fnMoveSpec)

/-- ITS FALSE NEIGHBOUR: 'it returns false'. Refute it at one input. -/
def fnMoveWrong : ChangeSpec := { name := "fnMove", fn := fun _ => fun
  | [d] => { results := [.lit (.bool false)], args := [d] }
  | _ => none }
def FnMoveWrongFalsely : Prop := fnMoveRow.holds Tryd.pinned (OpenSpec.ofChange fnMoveWrong)

/-- 'laws.FnExactFanIn': WHATEVER THE INPUT: true; the input reads as it did. -/
def fnExactFanInSpec : ChangeSpec := { name := "fnExactFanIn", fn := fun _ => fun
  | [d] => { results := [.lit (.bool true)], args := [d] }
  | _ => none }
def fnExactFanInRow : OpenClaim := { program := "ytcieihbknfeddaadoor", sum := "6d3276ff5f0c35faa8427d3f93b6daa28a2cffd897601152a9eed1079a81e31e", func := "loop.example/toricfans/laws.FnExactFanIn", spec := "fnExactFanIn", inPlace := ["internal/reflectlite.ValueOf", "(internal/reflectlite.Value).Type", "(internal/reflectlite.Value).IsNil", "internal/reflectlite.TypeOf", "(internal/reflectlite.Value).Elem", "(internal/reflectlite.Value).Set"], unfollowed := true, recurses := true, named := ["errors.errorType"], apart := false, laid := [("errors.errorType", laid_errors_errorType)] }
def FnExactFanInSaid : Prop := fnExactFanInRow.holds Tryd.pinned (OpenSpec.ofChange fnExactFanInSpec)

/-- ITS FALSE NEIGHBOUR: 'it returns false'. Refute it at one input. -/
def fnExactFanInWrong : ChangeSpec := { name := "fnExactFanIn", fn := fun _ => fun
  | [d] => { results := [.lit (.bool false)], args := [d] }
  | _ => none }
def FnExactFanInWrongFalsely : Prop := fnExactFanInRow.holds Tryd.pinned (OpenSpec.ofChange fnExactFanInWrong)

/-- 'laws.FnExactFanTidy': WHATEVER THE INPUT: true; the input reads as it did. -/
def fnExactFanTidySpec : ChangeSpec := { name := "fnExactFanTidy", fn := fun _ => fun
  | [d] => { results := [.lit (.bool true)], args := [d] }
  | _ => none }
def fnExactFanTidyRow : OpenClaim := { program := "ytcieihbknfeddaadoor", sum := "6d3276ff5f0c35faa8427d3f93b6daa28a2cffd897601152a9eed1079a81e31e", func := "loop.example/toricfans/laws.FnExactFanTidy", spec := "fnExactFanTidy", inPlace := ["internal/reflectlite.ValueOf", "(internal/reflectlite.Value).Type", "(internal/reflectlite.Value).IsNil", "internal/reflectlite.TypeOf", "(internal/reflectlite.Value).Elem", "(internal/reflectlite.Value).Set"], unfollowed := true, recurses := true, named := ["errors.errorType"], apart := false, laid := [("errors.errorType", laid_errors_errorType)] }
def FnExactFanTidySaid : Prop := fnExactFanTidyRow.holds Tryd.pinned (OpenSpec.ofChange fnExactFanTidySpec)

/-- ITS FALSE NEIGHBOUR: 'it returns false'. Refute it at one input. -/
def fnExactFanTidyWrong : ChangeSpec := { name := "fnExactFanTidy", fn := fun _ => fun
  | [d] => { results := [.lit (.bool false)], args := [d] }
  | _ => none }
def FnExactFanTidyWrongFalsely : Prop := fnExactFanTidyRow.holds Tryd.pinned (OpenSpec.ofChange fnExactFanTidyWrong)

/-- 'laws.FnExactFanOf': WHATEVER THE INPUT: true; the input reads as it did. -/
def fnExactFanOfSpec : ChangeSpec := { name := "fnExactFanOf", fn := fun _ => fun
  | [d] => { results := [.lit (.bool true)], args := [d] }
  | _ => none }
def fnExactFanOfRow : OpenClaim := { program := "ytcieihbknfeddaadoor", sum := "6d3276ff5f0c35faa8427d3f93b6daa28a2cffd897601152a9eed1079a81e31e", func := "loop.example/toricfans/laws.FnExactFanOf", spec := "fnExactFanOf", inPlace := ["internal/reflectlite.ValueOf", "(internal/reflectlite.Value).Type", "(internal/reflectlite.Value).IsNil", "internal/reflectlite.TypeOf", "(internal/reflectlite.Value).Elem", "(internal/reflectlite.Value).Set"], unfollowed := true, recurses := true, named := ["errors.errorType"], apart := false, laid := [("errors.errorType", laid_errors_errorType)] }
def FnExactFanOfSaid : Prop := fnExactFanOfRow.holds Tryd.pinned (OpenSpec.ofChange fnExactFanOfSpec)

/-- ITS FALSE NEIGHBOUR: 'it returns false'. Refute it at one input. -/
def fnExactFanOfWrong : ChangeSpec := { name := "fnExactFanOf", fn := fun _ => fun
  | [d] => { results := [.lit (.bool false)], args := [d] }
  | _ => none }
def FnExactFanOfWrongFalsely : Prop := fnExactFanOfRow.holds Tryd.pinned (OpenSpec.ofChange fnExactFanOfWrong)

/-- 'laws.FnExactFanSmooth': WHATEVER THE INPUT: true; the input reads as it did. -/
def fnExactFanSmoothSpec : ChangeSpec := { name := "fnExactFanSmooth", fn := fun _ => fun
  | [d] => { results := [.lit (.bool true)], args := [d] }
  | _ => none }
def fnExactFanSmoothRow : OpenClaim := { program := "ytcieihbknfeddaadoor", sum := "6d3276ff5f0c35faa8427d3f93b6daa28a2cffd897601152a9eed1079a81e31e", func := "loop.example/toricfans/laws.FnExactFanSmooth", spec := "fnExactFanSmooth", inPlace := ["internal/reflectlite.ValueOf", "(internal/reflectlite.Value).Type", "(internal/reflectlite.Value).IsNil", "internal/reflectlite.TypeOf", "(internal/reflectlite.Value).Elem", "(internal/reflectlite.Value).Set"], unfollowed := true, recurses := true, named := ["errors.errorType"], apart := false, laid := [("errors.errorType", laid_errors_errorType)] }
def FnExactFanSmoothSaid : Prop := fnExactFanSmoothRow.holds Tryd.pinned (OpenSpec.ofChange fnExactFanSmoothSpec)

/-- ITS FALSE NEIGHBOUR: 'it returns false'. Refute it at one input. -/
def fnExactFanSmoothWrong : ChangeSpec := { name := "fnExactFanSmooth", fn := fun _ => fun
  | [d] => { results := [.lit (.bool false)], args := [d] }
  | _ => none }
def FnExactFanSmoothWrongFalsely : Prop := fnExactFanSmoothRow.holds Tryd.pinned (OpenSpec.ofChange fnExactFanSmoothWrong)

/-- 'laws.FnExactFanCone': WHATEVER THE INPUT: true; the input reads as it did. -/
def fnExactFanConeSpec : ChangeSpec := { name := "fnExactFanCone", fn := fun _ => fun
  | [d1, d2] => { results := [.lit (.bool true)], args := [d1, d2] }
  | _ => none }
def fnExactFanConeRow : OpenClaim := { program := "ytcieihbknfeddaadoor", sum := "6d3276ff5f0c35faa8427d3f93b6daa28a2cffd897601152a9eed1079a81e31e", func := "loop.example/toricfans/laws.FnExactFanCone", spec := "fnExactFanCone", inPlace := ["internal/reflectlite.ValueOf", "(internal/reflectlite.Value).Type", "(internal/reflectlite.Value).IsNil", "internal/reflectlite.TypeOf", "(internal/reflectlite.Value).Elem", "(internal/reflectlite.Value).Set"], unfollowed := true, recurses := true, named := ["errors.errorType"], apart := false, laid := [("errors.errorType", laid_errors_errorType)] }
def FnExactFanConeSaid : Prop := fnExactFanConeRow.holds Tryd.pinned (OpenSpec.ofChange fnExactFanConeSpec)

/-- ITS FALSE NEIGHBOUR: 'it returns false'. Refute it at one input. -/
def fnExactFanConeWrong : ChangeSpec := { name := "fnExactFanCone", fn := fun _ => fun
  | [d1, d2] => { results := [.lit (.bool false)], args := [d1, d2] }
  | _ => none }
def FnExactFanConeWrongFalsely : Prop := fnExactFanConeRow.holds Tryd.pinned (OpenSpec.ofChange fnExactFanConeWrong)

/-- 'laws.FnExactFanWhere': WHATEVER THE INPUT: true; the input reads as it did. -/
def fnExactFanWhereSpec : ChangeSpec := { name := "fnExactFanWhere", fn := fun _ => fun
  | [d1, d2] => { results := [.lit (.bool true)], args := [d1, d2] }
  | _ => none }
def fnExactFanWhereRow : OpenClaim := { program := "ytcieihbknfeddaadoor", sum := "6d3276ff5f0c35faa8427d3f93b6daa28a2cffd897601152a9eed1079a81e31e", func := "loop.example/toricfans/laws.FnExactFanWhere", spec := "fnExactFanWhere", inPlace := ["internal/reflectlite.ValueOf", "(internal/reflectlite.Value).Type", "(internal/reflectlite.Value).IsNil", "internal/reflectlite.TypeOf", "(internal/reflectlite.Value).Elem", "(internal/reflectlite.Value).Set"], unfollowed := true, recurses := true, named := ["errors.errorType"], apart := false, laid := [("errors.errorType", laid_errors_errorType)] }
def FnExactFanWhereSaid : Prop := fnExactFanWhereRow.holds Tryd.pinned (OpenSpec.ofChange fnExactFanWhereSpec)

/-- ITS FALSE NEIGHBOUR: 'it returns false'. Refute it at one input. -/
def fnExactFanWhereWrong : ChangeSpec := { name := "fnExactFanWhere", fn := fun _ => fun
  | [d1, d2] => { results := [.lit (.bool false)], args := [d1, d2] }
  | _ => none }
def FnExactFanWhereWrongFalsely : Prop := fnExactFanWhereRow.holds Tryd.pinned (OpenSpec.ofChange fnExactFanWhereWrong)

/-- 'laws.FnExactFanNumbers': WHATEVER THE INPUT: true; the input reads as it did. -/
def fnExactFanNumbersSpec : ChangeSpec := { name := "fnExactFanNumbers", fn := fun _ => fun
  | [d] => { results := [.lit (.bool true)], args := [d] }
  | _ => none }
def fnExactFanNumbersRow : OpenClaim := { program := "ytcieihbknfeddaadoor", sum := "6d3276ff5f0c35faa8427d3f93b6daa28a2cffd897601152a9eed1079a81e31e", func := "loop.example/toricfans/laws.FnExactFanNumbers", spec := "fnExactFanNumbers", inPlace := ["internal/reflectlite.ValueOf", "(internal/reflectlite.Value).Type", "(internal/reflectlite.Value).IsNil", "internal/reflectlite.TypeOf", "(internal/reflectlite.Value).Elem", "(internal/reflectlite.Value).Set"], unfollowed := true, recurses := true, named := ["errors.errorType"], apart := false, laid := [("errors.errorType", laid_errors_errorType)] }
def FnExactFanNumbersSaid : Prop := fnExactFanNumbersRow.holds Tryd.pinned (OpenSpec.ofChange fnExactFanNumbersSpec)

/-- ITS FALSE NEIGHBOUR: 'it returns false'. Refute it at one input. -/
def fnExactFanNumbersWrong : ChangeSpec := { name := "fnExactFanNumbers", fn := fun _ => fun
  | [d] => { results := [.lit (.bool false)], args := [d] }
  | _ => none }
def FnExactFanNumbersWrongFalsely : Prop := fnExactFanNumbersRow.holds Tryd.pinned (OpenSpec.ofChange fnExactFanNumbersWrong)

/-- 'laws.FnExactFanBlow': WHATEVER THE INPUT: true; the input reads as it did. -/
def fnExactFanBlowSpec : ChangeSpec := { name := "fnExactFanBlow", fn := fun _ => fun
  | [d1, d2] => { results := [.lit (.bool true)], args := [d1, d2] }
  | _ => none }
def fnExactFanBlowRow : OpenClaim := { program := "ytcieihbknfeddaadoor", sum := "6d3276ff5f0c35faa8427d3f93b6daa28a2cffd897601152a9eed1079a81e31e", func := "loop.example/toricfans/laws.FnExactFanBlow", spec := "fnExactFanBlow", inPlace := ["internal/reflectlite.ValueOf", "(internal/reflectlite.Value).Type", "(internal/reflectlite.Value).IsNil", "internal/reflectlite.TypeOf", "(internal/reflectlite.Value).Elem", "(internal/reflectlite.Value).Set"], unfollowed := true, recurses := true, named := ["errors.errorType"], apart := false, laid := [("errors.errorType", laid_errors_errorType)] }
def FnExactFanBlowSaid : Prop := fnExactFanBlowRow.holds Tryd.pinned (OpenSpec.ofChange fnExactFanBlowSpec)

/-- ITS FALSE NEIGHBOUR: 'it returns false'. Refute it at one input. -/
def fnExactFanBlowWrong : ChangeSpec := { name := "fnExactFanBlow", fn := fun _ => fun
  | [d1, d2] => { results := [.lit (.bool false)], args := [d1, d2] }
  | _ => none }
def FnExactFanBlowWrongFalsely : Prop := fnExactFanBlowRow.holds Tryd.pinned (OpenSpec.ofChange fnExactFanBlowWrong)

/-- 'laws.FnExactFanDown': WHATEVER THE INPUT: true; the input reads as it did. -/
def fnExactFanDownSpec : ChangeSpec := { name := "fnExactFanDown", fn := fun _ => fun
  | [d1, d2] => { results := [.lit (.bool true)], args := [d1, d2] }
  | _ => none }
def fnExactFanDownRow : OpenClaim := { program := "ytcieihbknfeddaadoor", sum := "6d3276ff5f0c35faa8427d3f93b6daa28a2cffd897601152a9eed1079a81e31e", func := "loop.example/toricfans/laws.FnExactFanDown", spec := "fnExactFanDown", inPlace := ["internal/reflectlite.ValueOf", "(internal/reflectlite.Value).Type", "(internal/reflectlite.Value).IsNil", "internal/reflectlite.TypeOf", "(internal/reflectlite.Value).Elem", "(internal/reflectlite.Value).Set"], unfollowed := true, recurses := true, named := ["errors.errorType"], apart := false, laid := [("errors.errorType", laid_errors_errorType)] }
def FnExactFanDownSaid : Prop := fnExactFanDownRow.holds Tryd.pinned (OpenSpec.ofChange fnExactFanDownSpec)

/-- ITS FALSE NEIGHBOUR: 'it returns false'. Refute it at one input. -/
def fnExactFanDownWrong : ChangeSpec := { name := "fnExactFanDown", fn := fun _ => fun
  | [d1, d2] => { results := [.lit (.bool false)], args := [d1, d2] }
  | _ => none }
def FnExactFanDownWrongFalsely : Prop := fnExactFanDownRow.holds Tryd.pinned (OpenSpec.ofChange fnExactFanDownWrong)

/-- 'laws.FnExactFanLeast': WHATEVER THE INPUT: true; the input reads as it did. -/
def fnExactFanLeastSpec : ChangeSpec := { name := "fnExactFanLeast", fn := fun _ => fun
  | [d] => { results := [.lit (.bool true)], args := [d] }
  | _ => none }
def fnExactFanLeastRow : OpenClaim := { program := "ytcieihbknfeddaadoor", sum := "6d3276ff5f0c35faa8427d3f93b6daa28a2cffd897601152a9eed1079a81e31e", func := "loop.example/toricfans/laws.FnExactFanLeast", spec := "fnExactFanLeast", inPlace := ["internal/reflectlite.ValueOf", "(internal/reflectlite.Value).Type", "(internal/reflectlite.Value).IsNil", "internal/reflectlite.TypeOf", "(internal/reflectlite.Value).Elem", "(internal/reflectlite.Value).Set"], unfollowed := true, recurses := true, named := ["errors.errorType"], apart := false, laid := [("errors.errorType", laid_errors_errorType)] }
def FnExactFanLeastSaid : Prop := fnExactFanLeastRow.holds Tryd.pinned (OpenSpec.ofChange fnExactFanLeastSpec)

/-- ITS FALSE NEIGHBOUR: 'it returns false'. Refute it at one input. -/
def fnExactFanLeastWrong : ChangeSpec := { name := "fnExactFanLeast", fn := fun _ => fun
  | [d] => { results := [.lit (.bool false)], args := [d] }
  | _ => none }
def FnExactFanLeastWrongFalsely : Prop := fnExactFanLeastRow.holds Tryd.pinned (OpenSpec.ofChange fnExactFanLeastWrong)

/-- 'laws.FnExactFanResolve': WHATEVER THE INPUT: true; the input reads as it did. -/
def fnExactFanResolveSpec : ChangeSpec := { name := "fnExactFanResolve", fn := fun _ => fun
  | [d] => { results := [.lit (.bool true)], args := [d] }
  | _ => none }
def fnExactFanResolveRow : OpenClaim := { program := "ytcieihbknfeddaadoor", sum := "6d3276ff5f0c35faa8427d3f93b6daa28a2cffd897601152a9eed1079a81e31e", func := "loop.example/toricfans/laws.FnExactFanResolve", spec := "fnExactFanResolve", inPlace := ["internal/reflectlite.ValueOf", "(internal/reflectlite.Value).Type", "(internal/reflectlite.Value).IsNil", "internal/reflectlite.TypeOf", "(internal/reflectlite.Value).Elem", "(internal/reflectlite.Value).Set"], unfollowed := true, recurses := true, named := ["errors.errorType"], apart := false, laid := [("errors.errorType", laid_errors_errorType)] }
def FnExactFanResolveSaid : Prop := fnExactFanResolveRow.holds Tryd.pinned (OpenSpec.ofChange fnExactFanResolveSpec)

/-- ITS FALSE NEIGHBOUR: 'it returns false'. Refute it at one input. -/
def fnExactFanResolveWrong : ChangeSpec := { name := "fnExactFanResolve", fn := fun _ => fun
  | [d] => { results := [.lit (.bool false)], args := [d] }
  | _ => none }
def FnExactFanResolveWrongFalsely : Prop := fnExactFanResolveRow.holds Tryd.pinned (OpenSpec.ofChange fnExactFanResolveWrong)

/-- 'laws.FnExactFanMove': WHATEVER THE INPUT: true; the input reads as it did. -/
def fnExactFanMoveSpec : ChangeSpec := { name := "fnExactFanMove", fn := fun _ => fun
  | [d1, d2] => { results := [.lit (.bool true)], args := [d1, d2] }
  | _ => none }
def fnExactFanMoveRow : OpenClaim := { program := "ytcieihbknfeddaadoor", sum := "6d3276ff5f0c35faa8427d3f93b6daa28a2cffd897601152a9eed1079a81e31e", func := "loop.example/toricfans/laws.FnExactFanMove", spec := "fnExactFanMove", inPlace := ["internal/reflectlite.ValueOf", "(internal/reflectlite.Value).Type", "(internal/reflectlite.Value).IsNil", "internal/reflectlite.TypeOf", "(internal/reflectlite.Value).Elem", "(internal/reflectlite.Value).Set"], unfollowed := true, recurses := true, named := ["errors.errorType"], apart := false, laid := [("errors.errorType", laid_errors_errorType)] }
def FnExactFanMoveSaid : Prop := fnExactFanMoveRow.holds Tryd.pinned (OpenSpec.ofChange fnExactFanMoveSpec)

/-- ITS FALSE NEIGHBOUR: 'it returns false'. Refute it at one input. -/
def fnExactFanMoveWrong : ChangeSpec := { name := "fnExactFanMove", fn := fun _ => fun
  | [d1, d2] => { results := [.lit (.bool false)], args := [d1, d2] }
  | _ => none }
def FnExactFanMoveWrongFalsely : Prop := fnExactFanMoveRow.holds Tryd.pinned (OpenSpec.ofChange fnExactFanMoveWrong)

/-- 'laws.FnExactFanKind': WHATEVER THE INPUT: true; the input reads as it did. -/
def fnExactFanKindSpec : ChangeSpec := { name := "fnExactFanKind", fn := fun _ => fun
  | [d] => { results := [.lit (.bool true)], args := [d] }
  | _ => none }
def fnExactFanKindRow : OpenClaim := { program := "ytcieihbknfeddaadoor", sum := "6d3276ff5f0c35faa8427d3f93b6daa28a2cffd897601152a9eed1079a81e31e", func := "loop.example/toricfans/laws.FnExactFanKind", spec := "fnExactFanKind", inPlace := ["internal/reflectlite.ValueOf", "(internal/reflectlite.Value).Type", "(internal/reflectlite.Value).IsNil", "internal/reflectlite.TypeOf", "(internal/reflectlite.Value).Elem", "(internal/reflectlite.Value).Set"], unfollowed := true, recurses := true, named := ["errors.errorType"], apart := false, laid := [("errors.errorType", laid_errors_errorType)] }
def FnExactFanKindSaid : Prop := fnExactFanKindRow.holds Tryd.pinned (OpenSpec.ofChange fnExactFanKindSpec)

/-- ITS FALSE NEIGHBOUR: 'it returns false'. Refute it at one input. -/
def fnExactFanKindWrong : ChangeSpec := { name := "fnExactFanKind", fn := fun _ => fun
  | [d] => { results := [.lit (.bool false)], args := [d] }
  | _ => none }
def FnExactFanKindWrongFalsely : Prop := fnExactFanKindRow.holds Tryd.pinned (OpenSpec.ofChange fnExactFanKindWrong)

/-- 'laws.FnExactFanBuild': WHATEVER THE INPUT: true; the input reads as it did. -/
def fnExactFanBuildSpec : ChangeSpec := { name := "fnExactFanBuild", fn := fun _ => fun
  | [d] => { results := [.lit (.bool true)], args := [d] }
  | _ => none }
def fnExactFanBuildRow : OpenClaim := { program := "ytcieihbknfeddaadoor", sum := "6d3276ff5f0c35faa8427d3f93b6daa28a2cffd897601152a9eed1079a81e31e", func := "loop.example/toricfans/laws.FnExactFanBuild", spec := "fnExactFanBuild", inPlace := ["internal/reflectlite.ValueOf", "(internal/reflectlite.Value).Type", "(internal/reflectlite.Value).IsNil", "internal/reflectlite.TypeOf", "(internal/reflectlite.Value).Elem", "(internal/reflectlite.Value).Set"], unfollowed := true, recurses := true, named := ["errors.errorType"], apart := false, laid := [("errors.errorType", laid_errors_errorType)] }
def FnExactFanBuildSaid : Prop := fnExactFanBuildRow.holds Tryd.pinned (OpenSpec.ofChange fnExactFanBuildSpec)

/-- ITS FALSE NEIGHBOUR: 'it returns false'. Refute it at one input. -/
def fnExactFanBuildWrong : ChangeSpec := { name := "fnExactFanBuild", fn := fun _ => fun
  | [d] => { results := [.lit (.bool false)], args := [d] }
  | _ => none }
def FnExactFanBuildWrongFalsely : Prop := fnExactFanBuildRow.holds Tryd.pinned (OpenSpec.ofChange fnExactFanBuildWrong)

/-- 'laws.FnFanOf': WHATEVER THE INPUT: true; the input reads as it did. -/
def fnFanOfSpec : ChangeSpec := { name := "fnFanOf", fn := fun _ => fun
  | [d] => { results := [.lit (.bool true)], args := [d] }
  | _ => none }
def fnFanOfRow : OpenClaim := { program := "ytcieihbknfeddaadoor", sum := "6d3276ff5f0c35faa8427d3f93b6daa28a2cffd897601152a9eed1079a81e31e", func := "loop.example/toricfans/laws.FnFanOf", spec := "fnFanOf", inPlace := ["internal/reflectlite.ValueOf", "(internal/reflectlite.Value).Type", "(internal/reflectlite.Value).IsNil", "internal/reflectlite.TypeOf", "(internal/reflectlite.Value).Elem", "(internal/reflectlite.Value).Set"], unfollowed := true, recurses := true, named := ["errors.errorType"], apart := false, laid := [("errors.errorType", laid_errors_errorType)] }
def FnFanOfSaid : Prop := fnFanOfRow.holds Tryd.pinned (OpenSpec.ofChange fnFanOfSpec)

/-- ITS FALSE NEIGHBOUR: 'it returns false'. Refute it at one input. -/
def fnFanOfWrong : ChangeSpec := { name := "fnFanOf", fn := fun _ => fun
  | [d] => { results := [.lit (.bool false)], args := [d] }
  | _ => none }
def FnFanOfWrongFalsely : Prop := fnFanOfRow.holds Tryd.pinned (OpenSpec.ofChange fnFanOfWrong)

/- THE SECOND FORM. 'bulk': how many values and letters a reading holds, each counted each time it is reached (what is shared counts as often as it is met; a slice's spare places count too). A statement '..UptoSaid' is the law's where the arguments, and the package variables that the reading takes, are together of bulk at most 1048576: NARROWER than '..Said'. Prove '..Said' where nothing that the law and all that it calls make is longer than what came in: it says more and counts as full. Else prove '..UptoSaid'. A law counts once. -/
mutual
def uptoBulk {H : Type} : DataW H → Nat
  | .lit (.string bytes) => bytes.length + 1
  | .lit _ => 1
  | .nil => 1
  | .ptr d => uptoBulk d + 1
  | .slice elems spare => uptoBulkAll elems + uptoBulkAll spare + 1
  | .agg parts => uptoBulkAll parts + 1
  | .iface _ d => uptoBulk d + 1
  | .map entries => uptoBulkEntries entries + 1
  | .held _ => 1
def uptoBulkAll {H : Type} : List (DataW H) → Nat
  | [] => 0
  | d :: r => uptoBulk d + uptoBulkAll r
def uptoBulkEntries {H : Type} : List (Lit × DataW H) → Nat
  | [] => 0
  | x :: r => uptoBulkEntry x + uptoBulkEntries r
def uptoBulkEntry {H : Type} : Lit × DataW H → Nat
  | (.string bytes, d) => bytes.length + uptoBulk d + 1
  | (_, d) => uptoBulk d + 1
 end
def uptoSmall : (H : Type) → List (DataW H) → Bool := fun _ ds => decide (uptoBulkAll ds ≤ 1048576)
def OpenSpec.upto (s : _root_.Go.ChangeSpec) : _root_.Go.OpenSpec := { _root_.Go.OpenSpec.ofChange s with cond := some uptoSmall }

/-- 'laws.FnMove', WHERE WHAT IT READS IS OF BULK AT MOST 1048576: true; the input reads as it did. -/
def fnMoveUptoRow : OpenClaim := { program := "ytcieihbknfeddaadoor", sum := "6d3276ff5f0c35faa8427d3f93b6daa28a2cffd897601152a9eed1079a81e31e", func := "loop.example/toricfans/laws.FnMove", spec := "fnMove", inPlace := ["internal/reflectlite.ValueOf", "(internal/reflectlite.Value).Type", "(internal/reflectlite.Value).IsNil", "internal/reflectlite.TypeOf", "(internal/reflectlite.Value).Elem", "(internal/reflectlite.Value).Set"], unfollowed := true, recurses := true, named := ["errors.errorType"], apart := false, laid := [("errors.errorType", laid_errors_errorType)], narrowed := true }
def FnMoveUptoSaid : Prop := fnMoveUptoRow.holds Tryd.pinned (OpenSpec.upto fnMoveSpec)

/-- 'laws.FnExactFanIn', WHERE WHAT IT READS IS OF BULK AT MOST 1048576: true; the input reads as it did. -/
def fnExactFanInUptoRow : OpenClaim := { program := "ytcieihbknfeddaadoor", sum := "6d3276ff5f0c35faa8427d3f93b6daa28a2cffd897601152a9eed1079a81e31e", func := "loop.example/toricfans/laws.FnExactFanIn", spec := "fnExactFanIn", inPlace := ["internal/reflectlite.ValueOf", "(internal/reflectlite.Value).Type", "(internal/reflectlite.Value).IsNil", "internal/reflectlite.TypeOf", "(internal/reflectlite.Value).Elem", "(internal/reflectlite.Value).Set"], unfollowed := true, recurses := true, named := ["errors.errorType"], apart := false, laid := [("errors.errorType", laid_errors_errorType)], narrowed := true }
def FnExactFanInUptoSaid : Prop := fnExactFanInUptoRow.holds Tryd.pinned (OpenSpec.upto fnExactFanInSpec)

/-- 'laws.FnExactFanTidy', WHERE WHAT IT READS IS OF BULK AT MOST 1048576: true; the input reads as it did. -/
def fnExactFanTidyUptoRow : OpenClaim := { program := "ytcieihbknfeddaadoor", sum := "6d3276ff5f0c35faa8427d3f93b6daa28a2cffd897601152a9eed1079a81e31e", func := "loop.example/toricfans/laws.FnExactFanTidy", spec := "fnExactFanTidy", inPlace := ["internal/reflectlite.ValueOf", "(internal/reflectlite.Value).Type", "(internal/reflectlite.Value).IsNil", "internal/reflectlite.TypeOf", "(internal/reflectlite.Value).Elem", "(internal/reflectlite.Value).Set"], unfollowed := true, recurses := true, named := ["errors.errorType"], apart := false, laid := [("errors.errorType", laid_errors_errorType)], narrowed := true }
def FnExactFanTidyUptoSaid : Prop := fnExactFanTidyUptoRow.holds Tryd.pinned (OpenSpec.upto fnExactFanTidySpec)

/-- 'laws.FnExactFanOf', WHERE WHAT IT READS IS OF BULK AT MOST 1048576: true; the input reads as it did. -/
def fnExactFanOfUptoRow : OpenClaim := { program := "ytcieihbknfeddaadoor", sum := "6d3276ff5f0c35faa8427d3f93b6daa28a2cffd897601152a9eed1079a81e31e", func := "loop.example/toricfans/laws.FnExactFanOf", spec := "fnExactFanOf", inPlace := ["internal/reflectlite.ValueOf", "(internal/reflectlite.Value).Type", "(internal/reflectlite.Value).IsNil", "internal/reflectlite.TypeOf", "(internal/reflectlite.Value).Elem", "(internal/reflectlite.Value).Set"], unfollowed := true, recurses := true, named := ["errors.errorType"], apart := false, laid := [("errors.errorType", laid_errors_errorType)], narrowed := true }
def FnExactFanOfUptoSaid : Prop := fnExactFanOfUptoRow.holds Tryd.pinned (OpenSpec.upto fnExactFanOfSpec)

/-- 'laws.FnExactFanSmooth', WHERE WHAT IT READS IS OF BULK AT MOST 1048576: true; the input reads as it did. -/
def fnExactFanSmoothUptoRow : OpenClaim := { program := "ytcieihbknfeddaadoor", sum := "6d3276ff5f0c35faa8427d3f93b6daa28a2cffd897601152a9eed1079a81e31e", func := "loop.example/toricfans/laws.FnExactFanSmooth", spec := "fnExactFanSmooth", inPlace := ["internal/reflectlite.ValueOf", "(internal/reflectlite.Value).Type", "(internal/reflectlite.Value).IsNil", "internal/reflectlite.TypeOf", "(internal/reflectlite.Value).Elem", "(internal/reflectlite.Value).Set"], unfollowed := true, recurses := true, named := ["errors.errorType"], apart := false, laid := [("errors.errorType", laid_errors_errorType)], narrowed := true }
def FnExactFanSmoothUptoSaid : Prop := fnExactFanSmoothUptoRow.holds Tryd.pinned (OpenSpec.upto fnExactFanSmoothSpec)

/-- 'laws.FnExactFanCone', WHERE WHAT IT READS IS OF BULK AT MOST 1048576: true; the input reads as it did. -/
def fnExactFanConeUptoRow : OpenClaim := { program := "ytcieihbknfeddaadoor", sum := "6d3276ff5f0c35faa8427d3f93b6daa28a2cffd897601152a9eed1079a81e31e", func := "loop.example/toricfans/laws.FnExactFanCone", spec := "fnExactFanCone", inPlace := ["internal/reflectlite.ValueOf", "(internal/reflectlite.Value).Type", "(internal/reflectlite.Value).IsNil", "internal/reflectlite.TypeOf", "(internal/reflectlite.Value).Elem", "(internal/reflectlite.Value).Set"], unfollowed := true, recurses := true, named := ["errors.errorType"], apart := false, laid := [("errors.errorType", laid_errors_errorType)], narrowed := true }
def FnExactFanConeUptoSaid : Prop := fnExactFanConeUptoRow.holds Tryd.pinned (OpenSpec.upto fnExactFanConeSpec)

/-- 'laws.FnExactFanWhere', WHERE WHAT IT READS IS OF BULK AT MOST 1048576: true; the input reads as it did. -/
def fnExactFanWhereUptoRow : OpenClaim := { program := "ytcieihbknfeddaadoor", sum := "6d3276ff5f0c35faa8427d3f93b6daa28a2cffd897601152a9eed1079a81e31e", func := "loop.example/toricfans/laws.FnExactFanWhere", spec := "fnExactFanWhere", inPlace := ["internal/reflectlite.ValueOf", "(internal/reflectlite.Value).Type", "(internal/reflectlite.Value).IsNil", "internal/reflectlite.TypeOf", "(internal/reflectlite.Value).Elem", "(internal/reflectlite.Value).Set"], unfollowed := true, recurses := true, named := ["errors.errorType"], apart := false, laid := [("errors.errorType", laid_errors_errorType)], narrowed := true }
def FnExactFanWhereUptoSaid : Prop := fnExactFanWhereUptoRow.holds Tryd.pinned (OpenSpec.upto fnExactFanWhereSpec)

/-- 'laws.FnExactFanNumbers', WHERE WHAT IT READS IS OF BULK AT MOST 1048576: true; the input reads as it did. -/
def fnExactFanNumbersUptoRow : OpenClaim := { program := "ytcieihbknfeddaadoor", sum := "6d3276ff5f0c35faa8427d3f93b6daa28a2cffd897601152a9eed1079a81e31e", func := "loop.example/toricfans/laws.FnExactFanNumbers", spec := "fnExactFanNumbers", inPlace := ["internal/reflectlite.ValueOf", "(internal/reflectlite.Value).Type", "(internal/reflectlite.Value).IsNil", "internal/reflectlite.TypeOf", "(internal/reflectlite.Value).Elem", "(internal/reflectlite.Value).Set"], unfollowed := true, recurses := true, named := ["errors.errorType"], apart := false, laid := [("errors.errorType", laid_errors_errorType)], narrowed := true }
def FnExactFanNumbersUptoSaid : Prop := fnExactFanNumbersUptoRow.holds Tryd.pinned (OpenSpec.upto fnExactFanNumbersSpec)

/-- 'laws.FnExactFanBlow', WHERE WHAT IT READS IS OF BULK AT MOST 1048576: true; the input reads as it did. -/
def fnExactFanBlowUptoRow : OpenClaim := { program := "ytcieihbknfeddaadoor", sum := "6d3276ff5f0c35faa8427d3f93b6daa28a2cffd897601152a9eed1079a81e31e", func := "loop.example/toricfans/laws.FnExactFanBlow", spec := "fnExactFanBlow", inPlace := ["internal/reflectlite.ValueOf", "(internal/reflectlite.Value).Type", "(internal/reflectlite.Value).IsNil", "internal/reflectlite.TypeOf", "(internal/reflectlite.Value).Elem", "(internal/reflectlite.Value).Set"], unfollowed := true, recurses := true, named := ["errors.errorType"], apart := false, laid := [("errors.errorType", laid_errors_errorType)], narrowed := true }
def FnExactFanBlowUptoSaid : Prop := fnExactFanBlowUptoRow.holds Tryd.pinned (OpenSpec.upto fnExactFanBlowSpec)

/-- 'laws.FnExactFanDown', WHERE WHAT IT READS IS OF BULK AT MOST 1048576: true; the input reads as it did. -/
def fnExactFanDownUptoRow : OpenClaim := { program := "ytcieihbknfeddaadoor", sum := "6d3276ff5f0c35faa8427d3f93b6daa28a2cffd897601152a9eed1079a81e31e", func := "loop.example/toricfans/laws.FnExactFanDown", spec := "fnExactFanDown", inPlace := ["internal/reflectlite.ValueOf", "(internal/reflectlite.Value).Type", "(internal/reflectlite.Value).IsNil", "internal/reflectlite.TypeOf", "(internal/reflectlite.Value).Elem", "(internal/reflectlite.Value).Set"], unfollowed := true, recurses := true, named := ["errors.errorType"], apart := false, laid := [("errors.errorType", laid_errors_errorType)], narrowed := true }
def FnExactFanDownUptoSaid : Prop := fnExactFanDownUptoRow.holds Tryd.pinned (OpenSpec.upto fnExactFanDownSpec)

/-- 'laws.FnExactFanLeast', WHERE WHAT IT READS IS OF BULK AT MOST 1048576: true; the input reads as it did. -/
def fnExactFanLeastUptoRow : OpenClaim := { program := "ytcieihbknfeddaadoor", sum := "6d3276ff5f0c35faa8427d3f93b6daa28a2cffd897601152a9eed1079a81e31e", func := "loop.example/toricfans/laws.FnExactFanLeast", spec := "fnExactFanLeast", inPlace := ["internal/reflectlite.ValueOf", "(internal/reflectlite.Value).Type", "(internal/reflectlite.Value).IsNil", "internal/reflectlite.TypeOf", "(internal/reflectlite.Value).Elem", "(internal/reflectlite.Value).Set"], unfollowed := true, recurses := true, named := ["errors.errorType"], apart := false, laid := [("errors.errorType", laid_errors_errorType)], narrowed := true }
def FnExactFanLeastUptoSaid : Prop := fnExactFanLeastUptoRow.holds Tryd.pinned (OpenSpec.upto fnExactFanLeastSpec)

/-- 'laws.FnExactFanResolve', WHERE WHAT IT READS IS OF BULK AT MOST 1048576: true; the input reads as it did. -/
def fnExactFanResolveUptoRow : OpenClaim := { program := "ytcieihbknfeddaadoor", sum := "6d3276ff5f0c35faa8427d3f93b6daa28a2cffd897601152a9eed1079a81e31e", func := "loop.example/toricfans/laws.FnExactFanResolve", spec := "fnExactFanResolve", inPlace := ["internal/reflectlite.ValueOf", "(internal/reflectlite.Value).Type", "(internal/reflectlite.Value).IsNil", "internal/reflectlite.TypeOf", "(internal/reflectlite.Value).Elem", "(internal/reflectlite.Value).Set"], unfollowed := true, recurses := true, named := ["errors.errorType"], apart := false, laid := [("errors.errorType", laid_errors_errorType)], narrowed := true }
def FnExactFanResolveUptoSaid : Prop := fnExactFanResolveUptoRow.holds Tryd.pinned (OpenSpec.upto fnExactFanResolveSpec)

/-- 'laws.FnExactFanMove', WHERE WHAT IT READS IS OF BULK AT MOST 1048576: true; the input reads as it did. -/
def fnExactFanMoveUptoRow : OpenClaim := { program := "ytcieihbknfeddaadoor", sum := "6d3276ff5f0c35faa8427d3f93b6daa28a2cffd897601152a9eed1079a81e31e", func := "loop.example/toricfans/laws.FnExactFanMove", spec := "fnExactFanMove", inPlace := ["internal/reflectlite.ValueOf", "(internal/reflectlite.Value).Type", "(internal/reflectlite.Value).IsNil", "internal/reflectlite.TypeOf", "(internal/reflectlite.Value).Elem", "(internal/reflectlite.Value).Set"], unfollowed := true, recurses := true, named := ["errors.errorType"], apart := false, laid := [("errors.errorType", laid_errors_errorType)], narrowed := true }
def FnExactFanMoveUptoSaid : Prop := fnExactFanMoveUptoRow.holds Tryd.pinned (OpenSpec.upto fnExactFanMoveSpec)

/-- 'laws.FnExactFanKind', WHERE WHAT IT READS IS OF BULK AT MOST 1048576: true; the input reads as it did. -/
def fnExactFanKindUptoRow : OpenClaim := { program := "ytcieihbknfeddaadoor", sum := "6d3276ff5f0c35faa8427d3f93b6daa28a2cffd897601152a9eed1079a81e31e", func := "loop.example/toricfans/laws.FnExactFanKind", spec := "fnExactFanKind", inPlace := ["internal/reflectlite.ValueOf", "(internal/reflectlite.Value).Type", "(internal/reflectlite.Value).IsNil", "internal/reflectlite.TypeOf", "(internal/reflectlite.Value).Elem", "(internal/reflectlite.Value).Set"], unfollowed := true, recurses := true, named := ["errors.errorType"], apart := false, laid := [("errors.errorType", laid_errors_errorType)], narrowed := true }
def FnExactFanKindUptoSaid : Prop := fnExactFanKindUptoRow.holds Tryd.pinned (OpenSpec.upto fnExactFanKindSpec)

/-- 'laws.FnExactFanBuild', WHERE WHAT IT READS IS OF BULK AT MOST 1048576: true; the input reads as it did. -/
def fnExactFanBuildUptoRow : OpenClaim := { program := "ytcieihbknfeddaadoor", sum := "6d3276ff5f0c35faa8427d3f93b6daa28a2cffd897601152a9eed1079a81e31e", func := "loop.example/toricfans/laws.FnExactFanBuild", spec := "fnExactFanBuild", inPlace := ["internal/reflectlite.ValueOf", "(internal/reflectlite.Value).Type", "(internal/reflectlite.Value).IsNil", "internal/reflectlite.TypeOf", "(internal/reflectlite.Value).Elem", "(internal/reflectlite.Value).Set"], unfollowed := true, recurses := true, named := ["errors.errorType"], apart := false, laid := [("errors.errorType", laid_errors_errorType)], narrowed := true }
def FnExactFanBuildUptoSaid : Prop := fnExactFanBuildUptoRow.holds Tryd.pinned (OpenSpec.upto fnExactFanBuildSpec)

/-- 'laws.FnFanOf', WHERE WHAT IT READS IS OF BULK AT MOST 1048576: true; the input reads as it did. -/
def fnFanOfUptoRow : OpenClaim := { program := "ytcieihbknfeddaadoor", sum := "6d3276ff5f0c35faa8427d3f93b6daa28a2cffd897601152a9eed1079a81e31e", func := "loop.example/toricfans/laws.FnFanOf", spec := "fnFanOf", inPlace := ["internal/reflectlite.ValueOf", "(internal/reflectlite.Value).Type", "(internal/reflectlite.Value).IsNil", "internal/reflectlite.TypeOf", "(internal/reflectlite.Value).Elem", "(internal/reflectlite.Value).Set"], unfollowed := true, recurses := true, named := ["errors.errorType"], apart := false, laid := [("errors.errorType", laid_errors_errorType)], narrowed := true }
def FnFanOfUptoSaid : Prop := fnFanOfUptoRow.holds Tryd.pinned (OpenSpec.upto fnFanOfSpec)

end Rows
end Go.Proofs.YtcieihbknfeddaaDoor
