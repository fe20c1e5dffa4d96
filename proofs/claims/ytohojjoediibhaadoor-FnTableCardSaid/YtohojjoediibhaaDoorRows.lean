/-
  NARROWER THAN 'FOR EVERY INPUT', by the rows' own cells (each row's printed sentence says how): FnDivisor: laid · FnDivisorAdd: laid · FnDivisorTimes: laid · FnNef: laid · FnAmple: laid · FnCanonical: laid · FnDegrees: laid · FnSection: laid · FnBlow: laid · FnNumbersFan: laid · FnNumbersSum: laid · FnSurfaceKind: laid · FnRank: laid · FnSquare: laid · FnTable: laid · FnSurfaceAmple: laid.
  DERIVED. THE GIVEN ROWS OF THIS SEAT. 16 by the template 'for every input the law returns true; each argument reads behind the call as it read before'; 0 by the template 'total and deterministic' (their statements: YtohojjoediibhaaDoorTotals.lean).
  GIVEN WITH THE SEED: the statements are not yours to turn. If you find one false, say at which input.
  Laid BY PROGRAM, IN A SANDBOX (cutbox-rows.mjs): the forced cells as the released guide's own fill.sh prints them over the translation e82a938a6b0db555… (all of the seat's roots in one cut). By AI agents, Wed Nov 11 2026. No macro, syntax, notation, axiom, sorry.
-/
import Derived.Test.YtohojjoediibhaaDoorChecked
import GoSem.Claim
import GoSem.ClaimJoined
import GoSem.ClaimMapViews
import Derived.JoinedTies
import Derived.KernelRfl
namespace Go.Proofs.YtohojjoediibhaaDoor
/- THE CELL 'sum', in the pinned program and in every row, IS THE sha256 OF THE DUMP (.gsa) THAT YtohojjoediibhaaDoorProg.lean LOADS. Nothing in Lean hashes anything: it is a label: what it is worth is what the hold of that sum in a sandbox is worth. -/
noncomputable def Tryd.pinned : Pinned := { name := "ytohojjoediibhaadoor", sum := "e82a938a6b0db55503f31344b200d3a8ab9c0667765b322b06431163a5fc436d", checked := Tryd.checked }
namespace Rows
def none {H : Type} : Left H := { results := [], args := [] }

/- WHAT THE LISTED PACKAGE-LEVEL VARIABLES READ AS WHEN THE CALL BEGINS. Each datum BY PROGRAM (the guide's laid-datum.mjs) off the statement by which the dump's own 'gosem.cut.vars' lays the variable. In a bare row this is a premise. The card (YtohojjoediibhaaDoorCards.lean) ties it to the program's text. -/
def laid_errors_errorType {H : Type} : DataW H := .iface "internal/reflectlite.rtype" (.agg [.ptr (.lit (.string [101, 114, 114, 111, 114]))])

/-- 'laws.FnDivisor': WHATEVER THE INPUT: true; the input reads as it did. -/
def fnDivisorSpec : ChangeSpec := { name := "fnDivisor", fn := fun _ => fun
  | [d] => { results := [.lit (.bool true)], args := [d] }
  | _ => none }
def fnDivisorRow : OpenClaim := { program := "ytohojjoediibhaadoor", sum := "e82a938a6b0db55503f31344b200d3a8ab9c0667765b322b06431163a5fc436d", func := "loop.example/toricfans/laws.FnDivisor", spec := "fnDivisor", inPlace := ["internal/reflectlite.ValueOf", "(internal/reflectlite.Value).Type", "(internal/reflectlite.Value).IsNil", "internal/reflectlite.TypeOf", "(internal/reflectlite.Value).Elem", "(internal/reflectlite.Value).Set"], unfollowed := true, recurses := true, named := ["errors.errorType"], plainKeys := false, apart := false, laid := [("errors.errorType", laid_errors_errorType)] }
def FnDivisorSaid : Prop := fnDivisorRow.holds Tryd.pinned (OpenSpec.ofChange fnDivisorSpec)

/-- ITS FALSE NEIGHBOUR: 'it returns false'. Refute it at one input. -/
def fnDivisorWrong : ChangeSpec := { name := "fnDivisor", fn := fun _ => fun
  | [d] => { results := [.lit (.bool false)], args := [d] }
  | _ => none }
def FnDivisorWrongFalsely : Prop := fnDivisorRow.holds Tryd.pinned (OpenSpec.ofChange fnDivisorWrong)

/-- 'laws.FnDivisorAdd': WHATEVER THE INPUT: true; the input reads as it did. -/
def fnDivisorAddSpec : ChangeSpec := { name := "fnDivisorAdd", fn := fun _ => fun
  | [d] => { results := [.lit (.bool true)], args := [d] }
  | _ => none }
def fnDivisorAddRow : OpenClaim := { program := "ytohojjoediibhaadoor", sum := "e82a938a6b0db55503f31344b200d3a8ab9c0667765b322b06431163a5fc436d", func := "loop.example/toricfans/laws.FnDivisorAdd", spec := "fnDivisorAdd", inPlace := ["internal/reflectlite.ValueOf", "(internal/reflectlite.Value).Type", "(internal/reflectlite.Value).IsNil", "internal/reflectlite.TypeOf", "(internal/reflectlite.Value).Elem", "(internal/reflectlite.Value).Set"], unfollowed := true, recurses := true, named := ["errors.errorType"], plainKeys := false, apart := false, laid := [("errors.errorType", laid_errors_errorType)] }
def FnDivisorAddSaid : Prop := fnDivisorAddRow.holds Tryd.pinned (OpenSpec.ofChange fnDivisorAddSpec)

/-- ITS FALSE NEIGHBOUR: 'it returns false'. Refute it at one input. -/
def fnDivisorAddWrong : ChangeSpec := { name := "fnDivisorAdd", fn := fun _ => fun
  | [d] => { results := [.lit (.bool false)], args := [d] }
  | _ => none }
def FnDivisorAddWrongFalsely : Prop := fnDivisorAddRow.holds Tryd.pinned (OpenSpec.ofChange fnDivisorAddWrong)

/-- 'laws.FnDivisorTimes': WHATEVER THE INPUT: true; the input reads as it did. -/
def fnDivisorTimesSpec : ChangeSpec := { name := "fnDivisorTimes", fn := fun _ => fun
  | [d] => { results := [.lit (.bool true)], args := [d] }
  | _ => none }
def fnDivisorTimesRow : OpenClaim := { program := "ytohojjoediibhaadoor", sum := "e82a938a6b0db55503f31344b200d3a8ab9c0667765b322b06431163a5fc436d", func := "loop.example/toricfans/laws.FnDivisorTimes", spec := "fnDivisorTimes", inPlace := ["internal/reflectlite.ValueOf", "(internal/reflectlite.Value).Type", "(internal/reflectlite.Value).IsNil", "internal/reflectlite.TypeOf", "(internal/reflectlite.Value).Elem", "(internal/reflectlite.Value).Set"], unfollowed := true, recurses := true, named := ["errors.errorType"], plainKeys := false, apart := false, laid := [("errors.errorType", laid_errors_errorType)] }
def FnDivisorTimesSaid : Prop := fnDivisorTimesRow.holds Tryd.pinned (OpenSpec.ofChange fnDivisorTimesSpec)

/-- ITS FALSE NEIGHBOUR: 'it returns false'. Refute it at one input. -/
def fnDivisorTimesWrong : ChangeSpec := { name := "fnDivisorTimes", fn := fun _ => fun
  | [d] => { results := [.lit (.bool false)], args := [d] }
  | _ => none }
def FnDivisorTimesWrongFalsely : Prop := fnDivisorTimesRow.holds Tryd.pinned (OpenSpec.ofChange fnDivisorTimesWrong)

/-- 'laws.FnNef': WHATEVER THE INPUT: true; the input reads as it did. -/
def fnNefSpec : ChangeSpec := { name := "fnNef", fn := fun _ => fun
  | [d] => { results := [.lit (.bool true)], args := [d] }
  | _ => none }
def fnNefRow : OpenClaim := { program := "ytohojjoediibhaadoor", sum := "e82a938a6b0db55503f31344b200d3a8ab9c0667765b322b06431163a5fc436d", func := "loop.example/toricfans/laws.FnNef", spec := "fnNef", inPlace := ["internal/reflectlite.ValueOf", "(internal/reflectlite.Value).Type", "(internal/reflectlite.Value).IsNil", "internal/reflectlite.TypeOf", "(internal/reflectlite.Value).Elem", "(internal/reflectlite.Value).Set"], unfollowed := true, recurses := true, named := ["errors.errorType"], plainKeys := false, apart := false, laid := [("errors.errorType", laid_errors_errorType)] }
def FnNefSaid : Prop := fnNefRow.holds Tryd.pinned (OpenSpec.ofChange fnNefSpec)

/-- ITS FALSE NEIGHBOUR: 'it returns false'. Refute it at one input. -/
def fnNefWrong : ChangeSpec := { name := "fnNef", fn := fun _ => fun
  | [d] => { results := [.lit (.bool false)], args := [d] }
  | _ => none }
def FnNefWrongFalsely : Prop := fnNefRow.holds Tryd.pinned (OpenSpec.ofChange fnNefWrong)

/-- 'laws.FnAmple': WHATEVER THE INPUT: true; the input reads as it did. -/
def fnAmpleSpec : ChangeSpec := { name := "fnAmple", fn := fun _ => fun
  | [d] => { results := [.lit (.bool true)], args := [d] }
  | _ => none }
def fnAmpleRow : OpenClaim := { program := "ytohojjoediibhaadoor", sum := "e82a938a6b0db55503f31344b200d3a8ab9c0667765b322b06431163a5fc436d", func := "loop.example/toricfans/laws.FnAmple", spec := "fnAmple", inPlace := ["internal/reflectlite.ValueOf", "(internal/reflectlite.Value).Type", "(internal/reflectlite.Value).IsNil", "internal/reflectlite.TypeOf", "(internal/reflectlite.Value).Elem", "(internal/reflectlite.Value).Set"], unfollowed := true, recurses := true, named := ["errors.errorType"], plainKeys := false, apart := false, laid := [("errors.errorType", laid_errors_errorType)] }
def FnAmpleSaid : Prop := fnAmpleRow.holds Tryd.pinned (OpenSpec.ofChange fnAmpleSpec)

/-- ITS FALSE NEIGHBOUR: 'it returns false'. Refute it at one input. -/
def fnAmpleWrong : ChangeSpec := { name := "fnAmple", fn := fun _ => fun
  | [d] => { results := [.lit (.bool false)], args := [d] }
  | _ => none }
def FnAmpleWrongFalsely : Prop := fnAmpleRow.holds Tryd.pinned (OpenSpec.ofChange fnAmpleWrong)

/-- 'laws.FnCanonical': WHATEVER THE INPUT: true; the input reads as it did. -/
def fnCanonicalSpec : ChangeSpec := { name := "fnCanonical", fn := fun _ => fun
  | [d] => { results := [.lit (.bool true)], args := [d] }
  | _ => none }
def fnCanonicalRow : OpenClaim := { program := "ytohojjoediibhaadoor", sum := "e82a938a6b0db55503f31344b200d3a8ab9c0667765b322b06431163a5fc436d", func := "loop.example/toricfans/laws.FnCanonical", spec := "fnCanonical", inPlace := ["internal/reflectlite.ValueOf", "(internal/reflectlite.Value).Type", "(internal/reflectlite.Value).IsNil", "internal/reflectlite.TypeOf", "(internal/reflectlite.Value).Elem", "(internal/reflectlite.Value).Set"], unfollowed := true, recurses := true, named := ["errors.errorType"], plainKeys := false, apart := false, laid := [("errors.errorType", laid_errors_errorType)] }
def FnCanonicalSaid : Prop := fnCanonicalRow.holds Tryd.pinned (OpenSpec.ofChange fnCanonicalSpec)

/-- ITS FALSE NEIGHBOUR: 'it returns false'. Refute it at one input. -/
def fnCanonicalWrong : ChangeSpec := { name := "fnCanonical", fn := fun _ => fun
  | [d] => { results := [.lit (.bool false)], args := [d] }
  | _ => none }
def FnCanonicalWrongFalsely : Prop := fnCanonicalRow.holds Tryd.pinned (OpenSpec.ofChange fnCanonicalWrong)

/-- 'laws.FnDegrees': WHATEVER THE INPUT: true; the input reads as it did. -/
def fnDegreesSpec : ChangeSpec := { name := "fnDegrees", fn := fun _ => fun
  | [d] => { results := [.lit (.bool true)], args := [d] }
  | _ => none }
def fnDegreesRow : OpenClaim := { program := "ytohojjoediibhaadoor", sum := "e82a938a6b0db55503f31344b200d3a8ab9c0667765b322b06431163a5fc436d", func := "loop.example/toricfans/laws.FnDegrees", spec := "fnDegrees", inPlace := ["internal/reflectlite.ValueOf", "(internal/reflectlite.Value).Type", "(internal/reflectlite.Value).IsNil", "internal/reflectlite.TypeOf", "(internal/reflectlite.Value).Elem", "(internal/reflectlite.Value).Set"], unfollowed := true, recurses := true, named := ["errors.errorType"], plainKeys := false, apart := false, laid := [("errors.errorType", laid_errors_errorType)] }
def FnDegreesSaid : Prop := fnDegreesRow.holds Tryd.pinned (OpenSpec.ofChange fnDegreesSpec)

/-- ITS FALSE NEIGHBOUR: 'it returns false'. Refute it at one input. -/
def fnDegreesWrong : ChangeSpec := { name := "fnDegrees", fn := fun _ => fun
  | [d] => { results := [.lit (.bool false)], args := [d] }
  | _ => none }
def FnDegreesWrongFalsely : Prop := fnDegreesRow.holds Tryd.pinned (OpenSpec.ofChange fnDegreesWrong)

/-- 'laws.FnSection': WHATEVER THE INPUT: true; the input reads as it did. -/
def fnSectionSpec : ChangeSpec := { name := "fnSection", fn := fun _ => fun
  | [d] => { results := [.lit (.bool true)], args := [d] }
  | _ => none }
def fnSectionRow : OpenClaim := { program := "ytohojjoediibhaadoor", sum := "e82a938a6b0db55503f31344b200d3a8ab9c0667765b322b06431163a5fc436d", func := "loop.example/toricfans/laws.FnSection", spec := "fnSection", inPlace := ["internal/reflectlite.ValueOf", "(internal/reflectlite.Value).Type", "(internal/reflectlite.Value).IsNil", "internal/reflectlite.TypeOf", "(internal/reflectlite.Value).Elem", "(internal/reflectlite.Value).Set"], unfollowed := true, recurses := true, named := ["errors.errorType"], plainKeys := false, apart := false, laid := [("errors.errorType", laid_errors_errorType)] }
def FnSectionSaid : Prop := fnSectionRow.holds Tryd.pinned (OpenSpec.ofChange fnSectionSpec)

/-- ITS FALSE NEIGHBOUR: 'it returns false'. Refute it at one input. -/
def fnSectionWrong : ChangeSpec := { name := "fnSection", fn := fun _ => fun
  | [d] => { results := [.lit (.bool false)], args := [d] }
  | _ => none }
def FnSectionWrongFalsely : Prop := fnSectionRow.holds Tryd.pinned (OpenSpec.ofChange fnSectionWrong)

/-- 'laws.FnBlow': WHATEVER THE INPUT: true; the input reads as it did. -/
def fnBlowSpec : ChangeSpec := { name := "fnBlow", fn := fun _ => fun
  | [d] => { results := [.lit (.bool true)], args := [d] }
  | _ => none }
def fnBlowRow : OpenClaim := { program := "ytohojjoediibhaadoor", sum := "e82a938a6b0db55503f31344b200d3a8ab9c0667765b322b06431163a5fc436d", func := "loop.example/toricfans/laws.FnBlow", spec := "fnBlow", inPlace := ["internal/reflectlite.ValueOf", "(internal/reflectlite.Value).Type", "(internal/reflectlite.Value).IsNil", "internal/reflectlite.TypeOf", "(internal/reflectlite.Value).Elem", "(internal/reflectlite.Value).Set", "slices.overlaps[int]"], unfollowed := true, recurses := true, named := ["errors.errorType"], plainKeys := false, apart := false, laid := [("errors.errorType", laid_errors_errorType)] }
def FnBlowSaid : Prop := fnBlowRow.holds Tryd.pinned (OpenSpec.ofChange fnBlowSpec)

/-- ITS FALSE NEIGHBOUR: 'it returns false'. Refute it at one input. -/
def fnBlowWrong : ChangeSpec := { name := "fnBlow", fn := fun _ => fun
  | [d] => { results := [.lit (.bool false)], args := [d] }
  | _ => none }
def FnBlowWrongFalsely : Prop := fnBlowRow.holds Tryd.pinned (OpenSpec.ofChange fnBlowWrong)

/-- 'laws.FnNumbersFan': WHATEVER THE INPUT: true; the input reads as it did. -/
def fnNumbersFanSpec : ChangeSpec := { name := "fnNumbersFan", fn := fun _ => fun
  | [d] => { results := [.lit (.bool true)], args := [d] }
  | _ => none }
def fnNumbersFanRow : OpenClaim := { program := "ytohojjoediibhaadoor", sum := "e82a938a6b0db55503f31344b200d3a8ab9c0667765b322b06431163a5fc436d", func := "loop.example/toricfans/laws.FnNumbersFan", spec := "fnNumbersFan", inPlace := ["internal/reflectlite.ValueOf", "(internal/reflectlite.Value).Type", "(internal/reflectlite.Value).IsNil", "internal/reflectlite.TypeOf", "(internal/reflectlite.Value).Elem", "(internal/reflectlite.Value).Set"], unfollowed := true, recurses := true, named := ["errors.errorType"], plainKeys := false, apart := false, laid := [("errors.errorType", laid_errors_errorType)] }
def FnNumbersFanSaid : Prop := fnNumbersFanRow.holds Tryd.pinned (OpenSpec.ofChange fnNumbersFanSpec)

/-- ITS FALSE NEIGHBOUR: 'it returns false'. Refute it at one input. -/
def fnNumbersFanWrong : ChangeSpec := { name := "fnNumbersFan", fn := fun _ => fun
  | [d] => { results := [.lit (.bool false)], args := [d] }
  | _ => none }
def FnNumbersFanWrongFalsely : Prop := fnNumbersFanRow.holds Tryd.pinned (OpenSpec.ofChange fnNumbersFanWrong)

/-- 'laws.FnNumbersSum': WHATEVER THE INPUT: true; the input reads as it did. -/
def fnNumbersSumSpec : ChangeSpec := { name := "fnNumbersSum", fn := fun _ => fun
  | [d] => { results := [.lit (.bool true)], args := [d] }
  | _ => none }
def fnNumbersSumRow : OpenClaim := { program := "ytohojjoediibhaadoor", sum := "e82a938a6b0db55503f31344b200d3a8ab9c0667765b322b06431163a5fc436d", func := "loop.example/toricfans/laws.FnNumbersSum", spec := "fnNumbersSum", inPlace := ["internal/reflectlite.ValueOf", "(internal/reflectlite.Value).Type", "(internal/reflectlite.Value).IsNil", "internal/reflectlite.TypeOf", "(internal/reflectlite.Value).Elem", "(internal/reflectlite.Value).Set"], unfollowed := true, recurses := true, named := ["errors.errorType"], plainKeys := false, apart := false, laid := [("errors.errorType", laid_errors_errorType)] }
def FnNumbersSumSaid : Prop := fnNumbersSumRow.holds Tryd.pinned (OpenSpec.ofChange fnNumbersSumSpec)

/-- ITS FALSE NEIGHBOUR: 'it returns false'. Refute it at one input. -/
def fnNumbersSumWrong : ChangeSpec := { name := "fnNumbersSum", fn := fun _ => fun
  | [d] => { results := [.lit (.bool false)], args := [d] }
  | _ => none }
def FnNumbersSumWrongFalsely : Prop := fnNumbersSumRow.holds Tryd.pinned (OpenSpec.ofChange fnNumbersSumWrong)

/-- 'laws.FnSurfaceKind': WHATEVER THE INPUT: true; the input reads as it did. -/
def fnSurfaceKindSpec : ChangeSpec := { name := "fnSurfaceKind", fn := fun _ => fun
  | [d] => { results := [.lit (.bool true)], args := [d] }
  | _ => none }
def fnSurfaceKindRow : OpenClaim := { program := "ytohojjoediibhaadoor", sum := "e82a938a6b0db55503f31344b200d3a8ab9c0667765b322b06431163a5fc436d", func := "loop.example/toricfans/laws.FnSurfaceKind", spec := "fnSurfaceKind", inPlace := ["internal/reflectlite.ValueOf", "(internal/reflectlite.Value).Type", "(internal/reflectlite.Value).IsNil", "internal/reflectlite.TypeOf", "(internal/reflectlite.Value).Elem", "(internal/reflectlite.Value).Set"], unfollowed := true, recurses := true, named := ["errors.errorType"], plainKeys := false, apart := false, laid := [("errors.errorType", laid_errors_errorType)] }
def FnSurfaceKindSaid : Prop := fnSurfaceKindRow.holds Tryd.pinned (OpenSpec.ofChange fnSurfaceKindSpec)

/-- ITS FALSE NEIGHBOUR: 'it returns false'. Refute it at one input. -/
def fnSurfaceKindWrong : ChangeSpec := { name := "fnSurfaceKind", fn := fun _ => fun
  | [d] => { results := [.lit (.bool false)], args := [d] }
  | _ => none }
def FnSurfaceKindWrongFalsely : Prop := fnSurfaceKindRow.holds Tryd.pinned (OpenSpec.ofChange fnSurfaceKindWrong)

/-- 'laws.FnRank': WHATEVER THE INPUT: true; the input reads as it did. -/
def fnRankSpec : ChangeSpec := { name := "fnRank", fn := fun _ => fun
  | [d] => { results := [.lit (.bool true)], args := [d] }
  | _ => none }
def fnRankRow : OpenClaim := { program := "ytohojjoediibhaadoor", sum := "e82a938a6b0db55503f31344b200d3a8ab9c0667765b322b06431163a5fc436d", func := "loop.example/toricfans/laws.FnRank", spec := "fnRank", inPlace := ["internal/reflectlite.ValueOf", "(internal/reflectlite.Value).Type", "(internal/reflectlite.Value).IsNil", "internal/reflectlite.TypeOf", "(internal/reflectlite.Value).Elem", "(internal/reflectlite.Value).Set"], unfollowed := true, recurses := true, named := ["errors.errorType"], plainKeys := false, apart := false, laid := [("errors.errorType", laid_errors_errorType)] }
def FnRankSaid : Prop := fnRankRow.holds Tryd.pinned (OpenSpec.ofChange fnRankSpec)

/-- ITS FALSE NEIGHBOUR: 'it returns false'. Refute it at one input. -/
def fnRankWrong : ChangeSpec := { name := "fnRank", fn := fun _ => fun
  | [d] => { results := [.lit (.bool false)], args := [d] }
  | _ => none }
def FnRankWrongFalsely : Prop := fnRankRow.holds Tryd.pinned (OpenSpec.ofChange fnRankWrong)

/-- 'laws.FnSquare': WHATEVER THE INPUT: true; the input reads as it did. -/
def fnSquareSpec : ChangeSpec := { name := "fnSquare", fn := fun _ => fun
  | [d] => { results := [.lit (.bool true)], args := [d] }
  | _ => none }
def fnSquareRow : OpenClaim := { program := "ytohojjoediibhaadoor", sum := "e82a938a6b0db55503f31344b200d3a8ab9c0667765b322b06431163a5fc436d", func := "loop.example/toricfans/laws.FnSquare", spec := "fnSquare", inPlace := ["internal/reflectlite.ValueOf", "(internal/reflectlite.Value).Type", "(internal/reflectlite.Value).IsNil", "internal/reflectlite.TypeOf", "(internal/reflectlite.Value).Elem", "(internal/reflectlite.Value).Set"], unfollowed := true, recurses := true, named := ["errors.errorType"], plainKeys := false, apart := false, laid := [("errors.errorType", laid_errors_errorType)] }
def FnSquareSaid : Prop := fnSquareRow.holds Tryd.pinned (OpenSpec.ofChange fnSquareSpec)

/-- ITS FALSE NEIGHBOUR: 'it returns false'. Refute it at one input. -/
def fnSquareWrong : ChangeSpec := { name := "fnSquare", fn := fun _ => fun
  | [d] => { results := [.lit (.bool false)], args := [d] }
  | _ => none }
def FnSquareWrongFalsely : Prop := fnSquareRow.holds Tryd.pinned (OpenSpec.ofChange fnSquareWrong)

/-- 'laws.FnTable': WHATEVER THE INPUT: true; the input reads as it did. -/
def fnTableSpec : ChangeSpec := { name := "fnTable", fn := fun _ => fun
  | [d] => { results := [.lit (.bool true)], args := [d] }
  | _ => none }
def fnTableRow : OpenClaim := { program := "ytohojjoediibhaadoor", sum := "e82a938a6b0db55503f31344b200d3a8ab9c0667765b322b06431163a5fc436d", func := "loop.example/toricfans/laws.FnTable", spec := "fnTable", inPlace := ["internal/reflectlite.ValueOf", "(internal/reflectlite.Value).Type", "(internal/reflectlite.Value).IsNil", "internal/reflectlite.TypeOf", "(internal/reflectlite.Value).Elem", "(internal/reflectlite.Value).Set"], unfollowed := true, recurses := true, named := ["errors.errorType"], plainKeys := false, apart := false, laid := [("errors.errorType", laid_errors_errorType)] }
def FnTableSaid : Prop := fnTableRow.holds Tryd.pinned (OpenSpec.ofChange fnTableSpec)

/-- ITS FALSE NEIGHBOUR: 'it returns false'. Refute it at one input. -/
def fnTableWrong : ChangeSpec := { name := "fnTable", fn := fun _ => fun
  | [d] => { results := [.lit (.bool false)], args := [d] }
  | _ => none }
def FnTableWrongFalsely : Prop := fnTableRow.holds Tryd.pinned (OpenSpec.ofChange fnTableWrong)

/-- 'laws.FnSurfaceAmple': WHATEVER THE INPUT: true; the input reads as it did. -/
def fnSurfaceAmpleSpec : ChangeSpec := { name := "fnSurfaceAmple", fn := fun _ => fun
  | [d] => { results := [.lit (.bool true)], args := [d] }
  | _ => none }
def fnSurfaceAmpleRow : OpenClaim := { program := "ytohojjoediibhaadoor", sum := "e82a938a6b0db55503f31344b200d3a8ab9c0667765b322b06431163a5fc436d", func := "loop.example/toricfans/laws.FnSurfaceAmple", spec := "fnSurfaceAmple", inPlace := ["internal/reflectlite.ValueOf", "(internal/reflectlite.Value).Type", "(internal/reflectlite.Value).IsNil", "internal/reflectlite.TypeOf", "(internal/reflectlite.Value).Elem", "(internal/reflectlite.Value).Set"], unfollowed := true, recurses := true, named := ["errors.errorType"], plainKeys := false, apart := false, laid := [("errors.errorType", laid_errors_errorType)] }
def FnSurfaceAmpleSaid : Prop := fnSurfaceAmpleRow.holds Tryd.pinned (OpenSpec.ofChange fnSurfaceAmpleSpec)

/-- ITS FALSE NEIGHBOUR: 'it returns false'. Refute it at one input. -/
def fnSurfaceAmpleWrong : ChangeSpec := { name := "fnSurfaceAmple", fn := fun _ => fun
  | [d] => { results := [.lit (.bool false)], args := [d] }
  | _ => none }
def FnSurfaceAmpleWrongFalsely : Prop := fnSurfaceAmpleRow.holds Tryd.pinned (OpenSpec.ofChange fnSurfaceAmpleWrong)

/- THE SECOND FORM. 'bulk': how many values and letters a reading holds, each counted each time it is reached (what is shared counts as often as it is met; a slice's spare places count too). A statement '..UptoSaid' is the law's where the arguments, and the package variables that the reading takes, are together of bulk at most 1048576: NARROWER than '..Said'. Prove '..Said' where nothing that the law and all that it calls make is longer than what came in: it says more and counts as full. Else prove '..UptoSaid'. A law counts once. -/
mutual
def uptoBulk {H : Type} : DataW H → Nat
  | .lit (.string bytes) => bytes.length + 1
  | .lit _ => 1
  | .nil => 1
  | .ptr d => uptoBulk d + 1
  | .slice elems spare => uptoBulkAll elems + uptoBulkAll spare + 1
  | .agg parts => uptoBulkAll parts + 1
  | .iface _ d => uptoBulk d + 1
  | .map entries => uptoBulkEntries entries + 1
  | .held _ => 1
def uptoBulkAll {H : Type} : List (DataW H) → Nat
  | [] => 0
  | d :: r => uptoBulk d + uptoBulkAll r
def uptoBulkEntries {H : Type} : List (Lit × DataW H) → Nat
  | [] => 0
  | x :: r => uptoBulkEntry x + uptoBulkEntries r
def uptoBulkEntry {H : Type} : Lit × DataW H → Nat
  | (.string bytes, d) => bytes.length + uptoBulk d + 1
  | (_, d) => uptoBulk d + 1
 end
def uptoSmall : (H : Type) → List (DataW H) → Bool := fun _ ds => decide (uptoBulkAll ds ≤ 1048576)
def OpenSpec.upto (s : _root_.Go.ChangeSpec) : _root_.Go.OpenSpec := { _root_.Go.OpenSpec.ofChange s with cond := some uptoSmall }

/-- 'laws.FnDivisor', WHERE WHAT IT READS IS OF BULK AT MOST 1048576: true; the input reads as it did. -/
def fnDivisorUptoRow : OpenClaim := { program := "ytohojjoediibhaadoor", sum := "e82a938a6b0db55503f31344b200d3a8ab9c0667765b322b06431163a5fc436d", func := "loop.example/toricfans/laws.FnDivisor", spec := "fnDivisor", inPlace := ["internal/reflectlite.ValueOf", "(internal/reflectlite.Value).Type", "(internal/reflectlite.Value).IsNil", "internal/reflectlite.TypeOf", "(internal/reflectlite.Value).Elem", "(internal/reflectlite.Value).Set"], unfollowed := true, recurses := true, named := ["errors.errorType"], plainKeys := false, apart := false, laid := [("errors.errorType", laid_errors_errorType)], narrowed := true }
def FnDivisorUptoSaid : Prop := fnDivisorUptoRow.holds Tryd.pinned (OpenSpec.upto fnDivisorSpec)

/-- 'laws.FnDivisorAdd', WHERE WHAT IT READS IS OF BULK AT MOST 1048576: true; the input reads as it did. -/
def fnDivisorAddUptoRow : OpenClaim := { program := "ytohojjoediibhaadoor", sum := "e82a938a6b0db55503f31344b200d3a8ab9c0667765b322b06431163a5fc436d", func := "loop.example/toricfans/laws.FnDivisorAdd", spec := "fnDivisorAdd", inPlace := ["internal/reflectlite.ValueOf", "(internal/reflectlite.Value).Type", "(internal/reflectlite.Value).IsNil", "internal/reflectlite.TypeOf", "(internal/reflectlite.Value).Elem", "(internal/reflectlite.Value).Set"], unfollowed := true, recurses := true, named := ["errors.errorType"], plainKeys := false, apart := false, laid := [("errors.errorType", laid_errors_errorType)], narrowed := true }
def FnDivisorAddUptoSaid : Prop := fnDivisorAddUptoRow.holds Tryd.pinned (OpenSpec.upto fnDivisorAddSpec)

/-- 'laws.FnDivisorTimes', WHERE WHAT IT READS IS OF BULK AT MOST 1048576: true; the input reads as it did. -/
def fnDivisorTimesUptoRow : OpenClaim := { program := "ytohojjoediibhaadoor", sum := "e82a938a6b0db55503f31344b200d3a8ab9c0667765b322b06431163a5fc436d", func := "loop.example/toricfans/laws.FnDivisorTimes", spec := "fnDivisorTimes", inPlace := ["internal/reflectlite.ValueOf", "(internal/reflectlite.Value).Type", "(internal/reflectlite.Value).IsNil", "internal/reflectlite.TypeOf", "(internal/reflectlite.Value).Elem", "(internal/reflectlite.Value).Set"], unfollowed := true, recurses := true, named := ["errors.errorType"], plainKeys := false, apart := false, laid := [("errors.errorType", laid_errors_errorType)], narrowed := true }
def FnDivisorTimesUptoSaid : Prop := fnDivisorTimesUptoRow.holds Tryd.pinned (OpenSpec.upto fnDivisorTimesSpec)

/-- 'laws.FnNef', WHERE WHAT IT READS IS OF BULK AT MOST 1048576: true; the input reads as it did. -/
def fnNefUptoRow : OpenClaim := { program := "ytohojjoediibhaadoor", sum := "e82a938a6b0db55503f31344b200d3a8ab9c0667765b322b06431163a5fc436d", func := "loop.example/toricfans/laws.FnNef", spec := "fnNef", inPlace := ["internal/reflectlite.ValueOf", "(internal/reflectlite.Value).Type", "(internal/reflectlite.Value).IsNil", "internal/reflectlite.TypeOf", "(internal/reflectlite.Value).Elem", "(internal/reflectlite.Value).Set"], unfollowed := true, recurses := true, named := ["errors.errorType"], plainKeys := false, apart := false, laid := [("errors.errorType", laid_errors_errorType)], narrowed := true }
def FnNefUptoSaid : Prop := fnNefUptoRow.holds Tryd.pinned (OpenSpec.upto fnNefSpec)

/-- 'laws.FnAmple', WHERE WHAT IT READS IS OF BULK AT MOST 1048576: true; the input reads as it did. -/
def fnAmpleUptoRow : OpenClaim := { program := "ytohojjoediibhaadoor", sum := "e82a938a6b0db55503f31344b200d3a8ab9c0667765b322b06431163a5fc436d", func := "loop.example/toricfans/laws.FnAmple", spec := "fnAmple", inPlace := ["internal/reflectlite.ValueOf", "(internal/reflectlite.Value).Type", "(internal/reflectlite.Value).IsNil", "internal/reflectlite.TypeOf", "(internal/reflectlite.Value).Elem", "(internal/reflectlite.Value).Set"], unfollowed := true, recurses := true, named := ["errors.errorType"], plainKeys := false, apart := false, laid := [("errors.errorType", laid_errors_errorType)], narrowed := true }
def FnAmpleUptoSaid : Prop := fnAmpleUptoRow.holds Tryd.pinned (OpenSpec.upto fnAmpleSpec)

/-- 'laws.FnCanonical', WHERE WHAT IT READS IS OF BULK AT MOST 1048576: true; the input reads as it did. -/
def fnCanonicalUptoRow : OpenClaim := { program := "ytohojjoediibhaadoor", sum := "e82a938a6b0db55503f31344b200d3a8ab9c0667765b322b06431163a5fc436d", func := "loop.example/toricfans/laws.FnCanonical", spec := "fnCanonical", inPlace := ["internal/reflectlite.ValueOf", "(internal/reflectlite.Value).Type", "(internal/reflectlite.Value).IsNil", "internal/reflectlite.TypeOf", "(internal/reflectlite.Value).Elem", "(internal/reflectlite.Value).Set"], unfollowed := true, recurses := true, named := ["errors.errorType"], plainKeys := false, apart := false, laid := [("errors.errorType", laid_errors_errorType)], narrowed := true }
def FnCanonicalUptoSaid : Prop := fnCanonicalUptoRow.holds Tryd.pinned (OpenSpec.upto fnCanonicalSpec)

/-- 'laws.FnDegrees', WHERE WHAT IT READS IS OF BULK AT MOST 1048576: true; the input reads as it did. -/
def fnDegreesUptoRow : OpenClaim := { program := "ytohojjoediibhaadoor", sum := "e82a938a6b0db55503f31344b200d3a8ab9c0667765b322b06431163a5fc436d", func := "loop.example/toricfans/laws.FnDegrees", spec := "fnDegrees", inPlace := ["internal/reflectlite.ValueOf", "(internal/reflectlite.Value).Type", "(internal/reflectlite.Value).IsNil", "internal/reflectlite.TypeOf", "(internal/reflectlite.Value).Elem", "(internal/reflectlite.Value).Set"], unfollowed := true, recurses := true, named := ["errors.errorType"], plainKeys := false, apart := false, laid := [("errors.errorType", laid_errors_errorType)], narrowed := true }
def FnDegreesUptoSaid : Prop := fnDegreesUptoRow.holds Tryd.pinned (OpenSpec.upto fnDegreesSpec)

/-- 'laws.FnSection', WHERE WHAT IT READS IS OF BULK AT MOST 1048576: true; the input reads as it did. -/
def fnSectionUptoRow : OpenClaim := { program := "ytohojjoediibhaadoor", sum := "e82a938a6b0db55503f31344b200d3a8ab9c0667765b322b06431163a5fc436d", func := "loop.example/toricfans/laws.FnSection", spec := "fnSection", inPlace := ["internal/reflectlite.ValueOf", "(internal/reflectlite.Value).Type", "(internal/reflectlite.Value).IsNil", "internal/reflectlite.TypeOf", "(internal/reflectlite.Value).Elem", "(internal/reflectlite.Value).Set"], unfollowed := true, recurses := true, named := ["errors.errorType"], plainKeys := false, apart := false, laid := [("errors.errorType", laid_errors_errorType)], narrowed := true }
def FnSectionUptoSaid : Prop := fnSectionUptoRow.holds Tryd.pinned (OpenSpec.upto fnSectionSpec)

/-- 'laws.FnBlow', WHERE WHAT IT READS IS OF BULK AT MOST 1048576: true; the input reads as it did. -/
def fnBlowUptoRow : OpenClaim := { program := "ytohojjoediibhaadoor", sum := "e82a938a6b0db55503f31344b200d3a8ab9c0667765b322b06431163a5fc436d", func := "loop.example/toricfans/laws.FnBlow", spec := "fnBlow", inPlace := ["internal/reflectlite.ValueOf", "(internal/reflectlite.Value).Type", "(internal/reflectlite.Value).IsNil", "internal/reflectlite.TypeOf", "(internal/reflectlite.Value).Elem", "(internal/reflectlite.Value).Set", "slices.overlaps[int]"], unfollowed := true, recurses := true, named := ["errors.errorType"], plainKeys := false, apart := false, laid := [("errors.errorType", laid_errors_errorType)], narrowed := true }
def FnBlowUptoSaid : Prop := fnBlowUptoRow.holds Tryd.pinned (OpenSpec.upto fnBlowSpec)

/-- 'laws.FnNumbersFan', WHERE WHAT IT READS IS OF BULK AT MOST 1048576: true; the input reads as it did. -/
def fnNumbersFanUptoRow : OpenClaim := { program := "ytohojjoediibhaadoor", sum := "e82a938a6b0db55503f31344b200d3a8ab9c0667765b322b06431163a5fc436d", func := "loop.example/toricfans/laws.FnNumbersFan", spec := "fnNumbersFan", inPlace := ["internal/reflectlite.ValueOf", "(internal/reflectlite.Value).Type", "(internal/reflectlite.Value).IsNil", "internal/reflectlite.TypeOf", "(internal/reflectlite.Value).Elem", "(internal/reflectlite.Value).Set"], unfollowed := true, recurses := true, named := ["errors.errorType"], plainKeys := false, apart := false, laid := [("errors.errorType", laid_errors_errorType)], narrowed := true }
def FnNumbersFanUptoSaid : Prop := fnNumbersFanUptoRow.holds Tryd.pinned (OpenSpec.upto fnNumbersFanSpec)

/-- 'laws.FnNumbersSum', WHERE WHAT IT READS IS OF BULK AT MOST 1048576: true; the input reads as it did. -/
def fnNumbersSumUptoRow : OpenClaim := { program := "ytohojjoediibhaadoor", sum := "e82a938a6b0db55503f31344b200d3a8ab9c0667765b322b06431163a5fc436d", func := "loop.example/toricfans/laws.FnNumbersSum", spec := "fnNumbersSum", inPlace := ["internal/reflectlite.ValueOf", "(internal/reflectlite.Value).Type", "(internal/reflectlite.Value).IsNil", "internal/reflectlite.TypeOf", "(internal/reflectlite.Value).Elem", "(internal/reflectlite.Value).Set"], unfollowed := true, recurses := true, named := ["errors.errorType"], plainKeys := false, apart := false, laid := [("errors.errorType", laid_errors_errorType)], narrowed := true }
def FnNumbersSumUptoSaid : Prop := fnNumbersSumUptoRow.holds Tryd.pinned (OpenSpec.upto fnNumbersSumSpec)

/-- 'laws.FnSurfaceKind', WHERE WHAT IT READS IS OF BULK AT MOST 1048576: true; the input reads as it did. -/
def fnSurfaceKindUptoRow : OpenClaim := { program := "ytohojjoediibhaadoor", sum := "e82a938a6b0db55503f31344b200d3a8ab9c0667765b322b06431163a5fc436d", func := "loop.example/toricfans/laws.FnSurfaceKind", spec := "fnSurfaceKind", inPlace := ["internal/reflectlite.ValueOf", "(internal/reflectlite.Value).Type", "(internal/reflectlite.Value).IsNil", "internal/reflectlite.TypeOf", "(internal/reflectlite.Value).Elem", "(internal/reflectlite.Value).Set"], unfollowed := true, recurses := true, named := ["errors.errorType"], plainKeys := false, apart := false, laid := [("errors.errorType", laid_errors_errorType)], narrowed := true }
def FnSurfaceKindUptoSaid : Prop := fnSurfaceKindUptoRow.holds Tryd.pinned (OpenSpec.upto fnSurfaceKindSpec)

/-- 'laws.FnRank', WHERE WHAT IT READS IS OF BULK AT MOST 1048576: true; the input reads as it did. -/
def fnRankUptoRow : OpenClaim := { program := "ytohojjoediibhaadoor", sum := "e82a938a6b0db55503f31344b200d3a8ab9c0667765b322b06431163a5fc436d", func := "loop.example/toricfans/laws.FnRank", spec := "fnRank", inPlace := ["internal/reflectlite.ValueOf", "(internal/reflectlite.Value).Type", "(internal/reflectlite.Value).IsNil", "internal/reflectlite.TypeOf", "(internal/reflectlite.Value).Elem", "(internal/reflectlite.Value).Set"], unfollowed := true, recurses := true, named := ["errors.errorType"], plainKeys := false, apart := false, laid := [("errors.errorType", laid_errors_errorType)], narrowed := true }
def FnRankUptoSaid : Prop := fnRankUptoRow.holds Tryd.pinned (OpenSpec.upto fnRankSpec)

/-- 'laws.FnSquare', WHERE WHAT IT READS IS OF BULK AT MOST 1048576: true; the input reads as it did. -/
def fnSquareUptoRow : OpenClaim := { program := "ytohojjoediibhaadoor", sum := "e82a938a6b0db55503f31344b200d3a8ab9c0667765b322b06431163a5fc436d", func := "loop.example/toricfans/laws.FnSquare", spec := "fnSquare", inPlace := ["internal/reflectlite.ValueOf", "(internal/reflectlite.Value).Type", "(internal/reflectlite.Value).IsNil", "internal/reflectlite.TypeOf", "(internal/reflectlite.Value).Elem", "(internal/reflectlite.Value).Set"], unfollowed := true, recurses := true, named := ["errors.errorType"], plainKeys := false, apart := false, laid := [("errors.errorType", laid_errors_errorType)], narrowed := true }
def FnSquareUptoSaid : Prop := fnSquareUptoRow.holds Tryd.pinned (OpenSpec.upto fnSquareSpec)

/-- 'laws.FnTable', WHERE WHAT IT READS IS OF BULK AT MOST 1048576: true; the input reads as it did. -/
def fnTableUptoRow : OpenClaim := { program := "ytohojjoediibhaadoor", sum := "e82a938a6b0db55503f31344b200d3a8ab9c0667765b322b06431163a5fc436d", func := "loop.example/toricfans/laws.FnTable", spec := "fnTable", inPlace := ["internal/reflectlite.ValueOf", "(internal/reflectlite.Value).Type", "(internal/reflectlite.Value).IsNil", "internal/reflectlite.TypeOf", "(internal/reflectlite.Value).Elem", "(internal/reflectlite.Value).Set"], unfollowed := true, recurses := true, named := ["errors.errorType"], plainKeys := false, apart := false, laid := [("errors.errorType", laid_errors_errorType)], narrowed := true }
def FnTableUptoSaid : Prop := fnTableUptoRow.holds Tryd.pinned (OpenSpec.upto fnTableSpec)

/-- 'laws.FnSurfaceAmple', WHERE WHAT IT READS IS OF BULK AT MOST 1048576: true; the input reads as it did. -/
def fnSurfaceAmpleUptoRow : OpenClaim := { program := "ytohojjoediibhaadoor", sum := "e82a938a6b0db55503f31344b200d3a8ab9c0667765b322b06431163a5fc436d", func := "loop.example/toricfans/laws.FnSurfaceAmple", spec := "fnSurfaceAmple", inPlace := ["internal/reflectlite.ValueOf", "(internal/reflectlite.Value).Type", "(internal/reflectlite.Value).IsNil", "internal/reflectlite.TypeOf", "(internal/reflectlite.Value).Elem", "(internal/reflectlite.Value).Set"], unfollowed := true, recurses := true, named := ["errors.errorType"], plainKeys := false, apart := false, laid := [("errors.errorType", laid_errors_errorType)], narrowed := true }
def FnSurfaceAmpleUptoSaid : Prop := fnSurfaceAmpleUptoRow.holds Tryd.pinned (OpenSpec.upto fnSurfaceAmpleSpec)

end Rows
end Go.Proofs.YtohojjoediibhaaDoor
