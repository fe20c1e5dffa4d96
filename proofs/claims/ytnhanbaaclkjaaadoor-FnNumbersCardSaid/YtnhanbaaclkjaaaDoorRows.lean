/-
  NARROWER THAN 'FOR EVERY INPUT', by the rows' own cells (each row's printed sentence says how): FnNumbers: laid · FnSurfaceDet: laid · FnExactNumbersFan: laid · FnExactNumbersSum: laid · FnExactSurfaceRank: laid · FnExactSurfaceSquare: laid · FnExactSurfaceTable: laid · FnExactSurfaceDet: laid · FnExactSurfaceAmple: laid.
  DERIVED. THE GIVEN ROWS OF THIS SEAT. 9 by the template 'for every input the law returns true; each argument reads behind the call as it read before'; 0 by the template 'total and deterministic' (their statements: YtnhanbaaclkjaaaDoorTotals.lean).
  GIVEN WITH THE SEED: the statements are not yours to turn. If you find one false, say at which input.
  Laid BY PROGRAM, IN A SANDBOX (cutbox-rows.mjs): the forced cells as the released guide's own fill.sh prints them over the translation a7588a9b78949408… (all of the seat's roots in one cut). By AI agents, Wed Nov 11 2026. No macro, syntax, notation, axiom, sorry.
-/
import Derived.Test.YtnhanbaaclkjaaaDoorChecked
import GoSem.Claim
import GoSem.ClaimJoined
import GoSem.ClaimMapViews
import Derived.JoinedTies
import Derived.KernelRfl
namespace Go.Proofs.YtnhanbaaclkjaaaDoor
/- THE CELL 'sum', in the pinned program and in every row, IS THE sha256 OF THE DUMP (.gsa) THAT YtnhanbaaclkjaaaDoorProg.lean LOADS. Nothing in Lean hashes anything: it is a label: what it is worth is what the hold of that sum in a sandbox is worth. -/
noncomputable def Tryd.pinned : Pinned := { name := "ytnhanbaaclkjaaadoor", sum := "a7588a9b78949408c791abc2a6333441b69c0ae91866e153ee29e094adf0efe1", checked := Tryd.checked }
namespace Rows
def none {H : Type} : Left H := { results := [], args := [] }

/- WHAT THE LISTED PACKAGE-LEVEL VARIABLES READ AS WHEN THE CALL BEGINS. Each datum BY PROGRAM (the guide's laid-datum.mjs) off the statement by which the dump's own 'gosem.cut.vars' lays the variable. In a bare row this is a premise. The card (YtnhanbaaclkjaaaDoorCards.lean) ties it to the program's text. -/
def laid_errors_errorType {H : Type} : DataW H := .iface "internal/reflectlite.rtype" (.agg [.ptr (.lit (.string [101, 114, 114, 111, 114]))])

/-- 'laws.FnNumbers': WHATEVER THE INPUT: true; the input reads as it did. -/
def fnNumbersSpec : ChangeSpec := { name := "fnNumbers", fn := fun _ => fun
  | [d] => { results := [.lit (.bool true)], args := [d] }
  | _ => none }
def fnNumbersRow : OpenClaim := { program := "ytnhanbaaclkjaaadoor", sum := "a7588a9b78949408c791abc2a6333441b69c0ae91866e153ee29e094adf0efe1", func := "loop.example/toricfans/laws.FnNumbers", spec := "fnNumbers", inPlace := ["internal/reflectlite.ValueOf", "(internal/reflectlite.Value).Type", "(internal/reflectlite.Value).IsNil", "internal/reflectlite.TypeOf", "(internal/reflectlite.Value).Elem", "(internal/reflectlite.Value).Set"], unfollowed := true, recurses := true, named := ["errors.errorType"], plainKeys := false, apart := false, laid := [("errors.errorType", laid_errors_errorType)] }
def FnNumbersSaid : Prop := fnNumbersRow.holds Tryd.pinned (OpenSpec.ofChange fnNumbersSpec)

/-- ITS FALSE NEIGHBOUR: 'it returns false'. Refute it at one input. -/
def fnNumbersWrong : ChangeSpec := { name := "fnNumbers", fn := fun _ => fun
  | [d] => { results := [.lit (.bool false)], args := [d] }
  | _ => none }
def FnNumbersWrongFalsely : Prop := fnNumbersRow.holds Tryd.pinned (OpenSpec.ofChange fnNumbersWrong)

/-- 'laws.FnSurfaceDet': WHATEVER THE INPUT: true; the input reads as it did. -/
def fnSurfaceDetSpec : ChangeSpec := { name := "fnSurfaceDet", fn := fun _ => fun
  | [d] => { results := [.lit (.bool true)], args := [d] }
  | _ => none }
def fnSurfaceDetRow : OpenClaim := { program := "ytnhanbaaclkjaaadoor", sum := "a7588a9b78949408c791abc2a6333441b69c0ae91866e153ee29e094adf0efe1", func := "loop.example/toricfans/laws.FnSurfaceDet", spec := "fnSurfaceDet", inPlace := ["internal/reflectlite.ValueOf", "(internal/reflectlite.Value).Type", "(internal/reflectlite.Value).IsNil", "internal/reflectlite.TypeOf", "(internal/reflectlite.Value).Elem", "(internal/reflectlite.Value).Set"], unfollowed := true, recurses := true, named := ["errors.errorType"], plainKeys := false, apart := false, laid := [("errors.errorType", laid_errors_errorType)] }
def FnSurfaceDetSaid : Prop := fnSurfaceDetRow.holds Tryd.pinned (OpenSpec.ofChange fnSurfaceDetSpec)

/-- ITS FALSE NEIGHBOUR: 'it returns false'. Refute it at one input. -/
def fnSurfaceDetWrong : ChangeSpec := { name := "fnSurfaceDet", fn := fun _ => fun
  | [d] => { results := [.lit (.bool false)], args := [d] }
  | _ => none }
def FnSurfaceDetWrongFalsely : Prop := fnSurfaceDetRow.holds Tryd.pinned (OpenSpec.ofChange fnSurfaceDetWrong)

/-- 'laws.FnExactNumbersFan': WHATEVER THE INPUT: true; the input reads as it did. -/
def fnExactNumbersFanSpec : ChangeSpec := { name := "fnExactNumbersFan", fn := fun _ => fun
  | [d] => { results := [.lit (.bool true)], args := [d] }
  | _ => none }
def fnExactNumbersFanRow : OpenClaim := { program := "ytnhanbaaclkjaaadoor", sum := "a7588a9b78949408c791abc2a6333441b69c0ae91866e153ee29e094adf0efe1", func := "loop.example/toricfans/laws.FnExactNumbersFan", spec := "fnExactNumbersFan", inPlace := ["internal/reflectlite.ValueOf", "(internal/reflectlite.Value).Type", "(internal/reflectlite.Value).IsNil", "internal/reflectlite.TypeOf", "(internal/reflectlite.Value).Elem", "(internal/reflectlite.Value).Set"], unfollowed := true, recurses := true, named := ["errors.errorType"], plainKeys := false, apart := false, laid := [("errors.errorType", laid_errors_errorType)] }
def FnExactNumbersFanSaid : Prop := fnExactNumbersFanRow.holds Tryd.pinned (OpenSpec.ofChange fnExactNumbersFanSpec)

/-- ITS FALSE NEIGHBOUR: 'it returns false'. Refute it at one input. -/
def fnExactNumbersFanWrong : ChangeSpec := { name := "fnExactNumbersFan", fn := fun _ => fun
  | [d] => { results := [.lit (.bool false)], args := [d] }
  | _ => none }
def FnExactNumbersFanWrongFalsely : Prop := fnExactNumbersFanRow.holds Tryd.pinned (OpenSpec.ofChange fnExactNumbersFanWrong)

/-- 'laws.FnExactNumbersSum': WHATEVER THE INPUT: true; the input reads as it did. -/
def fnExactNumbersSumSpec : ChangeSpec := { name := "fnExactNumbersSum", fn := fun _ => fun
  | [d] => { results := [.lit (.bool true)], args := [d] }
  | _ => none }
def fnExactNumbersSumRow : OpenClaim := { program := "ytnhanbaaclkjaaadoor", sum := "a7588a9b78949408c791abc2a6333441b69c0ae91866e153ee29e094adf0efe1", func := "loop.example/toricfans/laws.FnExactNumbersSum", spec := "fnExactNumbersSum", inPlace := ["internal/reflectlite.ValueOf", "(internal/reflectlite.Value).Type", "(internal/reflectlite.Value).IsNil", "internal/reflectlite.TypeOf", "(internal/reflectlite.Value).Elem", "(internal/reflectlite.Value).Set"], unfollowed := true, recurses := true, named := ["errors.errorType"], plainKeys := false, apart := false, laid := [("errors.errorType", laid_errors_errorType)] }
def FnExactNumbersSumSaid : Prop := fnExactNumbersSumRow.holds Tryd.pinned (OpenSpec.ofChange fnExactNumbersSumSpec)

/-- ITS FALSE NEIGHBOUR: 'it returns false'. Refute it at one input. -/
def fnExactNumbersSumWrong : ChangeSpec := { name := "fnExactNumbersSum", fn := fun _ => fun
  | [d] => { results := [.lit (.bool false)], args := [d] }
  | _ => none }
def FnExactNumbersSumWrongFalsely : Prop := fnExactNumbersSumRow.holds Tryd.pinned (OpenSpec.ofChange fnExactNumbersSumWrong)

/-- 'laws.FnExactSurfaceRank': WHATEVER THE INPUT: true; the input reads as it did. -/
def fnExactSurfaceRankSpec : ChangeSpec := { name := "fnExactSurfaceRank", fn := fun _ => fun
  | [d] => { results := [.lit (.bool true)], args := [d] }
  | _ => none }
def fnExactSurfaceRankRow : OpenClaim := { program := "ytnhanbaaclkjaaadoor", sum := "a7588a9b78949408c791abc2a6333441b69c0ae91866e153ee29e094adf0efe1", func := "loop.example/toricfans/laws.FnExactSurfaceRank", spec := "fnExactSurfaceRank", inPlace := ["internal/reflectlite.ValueOf", "(internal/reflectlite.Value).Type", "(internal/reflectlite.Value).IsNil", "internal/reflectlite.TypeOf", "(internal/reflectlite.Value).Elem", "(internal/reflectlite.Value).Set"], unfollowed := true, recurses := true, named := ["errors.errorType"], plainKeys := false, apart := false, laid := [("errors.errorType", laid_errors_errorType)] }
def FnExactSurfaceRankSaid : Prop := fnExactSurfaceRankRow.holds Tryd.pinned (OpenSpec.ofChange fnExactSurfaceRankSpec)

/-- ITS FALSE NEIGHBOUR: 'it returns false'. Refute it at one input. -/
def fnExactSurfaceRankWrong : ChangeSpec := { name := "fnExactSurfaceRank", fn := fun _ => fun
  | [d] => { results := [.lit (.bool false)], args := [d] }
  | _ => none }
def FnExactSurfaceRankWrongFalsely : Prop := fnExactSurfaceRankRow.holds Tryd.pinned (OpenSpec.ofChange fnExactSurfaceRankWrong)

/-- 'laws.FnExactSurfaceSquare': WHATEVER THE INPUT: true; the input reads as it did. -/
def fnExactSurfaceSquareSpec : ChangeSpec := { name := "fnExactSurfaceSquare", fn := fun _ => fun
  | [d] => { results := [.lit (.bool true)], args := [d] }
  | _ => none }
def fnExactSurfaceSquareRow : OpenClaim := { program := "ytnhanbaaclkjaaadoor", sum := "a7588a9b78949408c791abc2a6333441b69c0ae91866e153ee29e094adf0efe1", func := "loop.example/toricfans/laws.FnExactSurfaceSquare", spec := "fnExactSurfaceSquare", inPlace := ["internal/reflectlite.ValueOf", "(internal/reflectlite.Value).Type", "(internal/reflectlite.Value).IsNil", "internal/reflectlite.TypeOf", "(internal/reflectlite.Value).Elem", "(internal/reflectlite.Value).Set"], unfollowed := true, recurses := true, named := ["errors.errorType"], plainKeys := false, apart := false, laid := [("errors.errorType", laid_errors_errorType)] }
def FnExactSurfaceSquareSaid : Prop := fnExactSurfaceSquareRow.holds Tryd.pinned (OpenSpec.ofChange fnExactSurfaceSquareSpec)

/-- ITS FALSE NEIGHBOUR: 'it returns false'. Refute it at one input. -/
def fnExactSurfaceSquareWrong : ChangeSpec := { name := "fnExactSurfaceSquare", fn := fun _ => fun
  | [d] => { results := [.lit (.bool false)], args := [d] }
  | _ => none }
def FnExactSurfaceSquareWrongFalsely : Prop := fnExactSurfaceSquareRow.holds Tryd.pinned (OpenSpec.ofChange fnExactSurfaceSquareWrong)

/-- 'laws.FnExactSurfaceTable': WHATEVER THE INPUT: true; the input reads as it did. -/
def fnExactSurfaceTableSpec : ChangeSpec := { name := "fnExactSurfaceTable", fn := fun _ => fun
  | [d] => { results := [.lit (.bool true)], args := [d] }
  | _ => none }
def fnExactSurfaceTableRow : OpenClaim := { program := "ytnhanbaaclkjaaadoor", sum := "a7588a9b78949408c791abc2a6333441b69c0ae91866e153ee29e094adf0efe1", func := "loop.example/toricfans/laws.FnExactSurfaceTable", spec := "fnExactSurfaceTable", inPlace := ["internal/reflectlite.ValueOf", "(internal/reflectlite.Value).Type", "(internal/reflectlite.Value).IsNil", "internal/reflectlite.TypeOf", "(internal/reflectlite.Value).Elem", "(internal/reflectlite.Value).Set"], unfollowed := true, recurses := true, named := ["errors.errorType"], plainKeys := false, apart := false, laid := [("errors.errorType", laid_errors_errorType)] }
def FnExactSurfaceTableSaid : Prop := fnExactSurfaceTableRow.holds Tryd.pinned (OpenSpec.ofChange fnExactSurfaceTableSpec)

/-- ITS FALSE NEIGHBOUR: 'it returns false'. Refute it at one input. -/
def fnExactSurfaceTableWrong : ChangeSpec := { name := "fnExactSurfaceTable", fn := fun _ => fun
  | [d] => { results := [.lit (.bool false)], args := [d] }
  | _ => none }
def FnExactSurfaceTableWrongFalsely : Prop := fnExactSurfaceTableRow.holds Tryd.pinned (OpenSpec.ofChange fnExactSurfaceTableWrong)

/-- 'laws.FnExactSurfaceDet': WHATEVER THE INPUT: true; the input reads as it did. -/
def fnExactSurfaceDetSpec : ChangeSpec := { name := "fnExactSurfaceDet", fn := fun _ => fun
  | [d] => { results := [.lit (.bool true)], args := [d] }
  | _ => none }
def fnExactSurfaceDetRow : OpenClaim := { program := "ytnhanbaaclkjaaadoor", sum := "a7588a9b78949408c791abc2a6333441b69c0ae91866e153ee29e094adf0efe1", func := "loop.example/toricfans/laws.FnExactSurfaceDet", spec := "fnExactSurfaceDet", inPlace := ["internal/reflectlite.ValueOf", "(internal/reflectlite.Value).Type", "(internal/reflectlite.Value).IsNil", "internal/reflectlite.TypeOf", "(internal/reflectlite.Value).Elem", "(internal/reflectlite.Value).Set"], unfollowed := true, recurses := true, named := ["errors.errorType"], plainKeys := false, apart := false, laid := [("errors.errorType", laid_errors_errorType)] }
def FnExactSurfaceDetSaid : Prop := fnExactSurfaceDetRow.holds Tryd.pinned (OpenSpec.ofChange fnExactSurfaceDetSpec)

/-- ITS FALSE NEIGHBOUR: 'it returns false'. Refute it at one input. -/
def fnExactSurfaceDetWrong : ChangeSpec := { name := "fnExactSurfaceDet", fn := fun _ => fun
  | [d] => { results := [.lit (.bool false)], args := [d] }
  | _ => none }
def FnExactSurfaceDetWrongFalsely : Prop := fnExactSurfaceDetRow.holds Tryd.pinned (OpenSpec.ofChange fnExactSurfaceDetWrong)

/-- 'laws.FnExactSurfaceAmple': WHATEVER THE INPUT: true; the input reads as it did. -/
def fnExactSurfaceAmpleSpec : ChangeSpec := { name := "fnExactSurfaceAmple", fn := fun _ => fun
  | [d] => { results := [.lit (.bool true)], args := [d] }
  | _ => none }
def fnExactSurfaceAmpleRow : OpenClaim := { program := "ytnhanbaaclkjaaadoor", sum := "a7588a9b78949408c791abc2a6333441b69c0ae91866e153ee29e094adf0efe1", func := "loop.example/toricfans/laws.FnExactSurfaceAmple", spec := "fnExactSurfaceAmple", inPlace := ["internal/reflectlite.ValueOf", "(internal/reflectlite.Value).Type", "(internal/reflectlite.Value).IsNil", "internal/reflectlite.TypeOf", "(internal/reflectlite.Value).Elem", "(internal/reflectlite.Value).Set"], unfollowed := true, recurses := true, named := ["errors.errorType"], plainKeys := false, apart := false, laid := [("errors.errorType", laid_errors_errorType)] }
def FnExactSurfaceAmpleSaid : Prop := fnExactSurfaceAmpleRow.holds Tryd.pinned (OpenSpec.ofChange fnExactSurfaceAmpleSpec)

/-- ITS FALSE NEIGHBOUR: 'it returns false'. Refute it at one input. -/
def fnExactSurfaceAmpleWrong : ChangeSpec := { name := "fnExactSurfaceAmple", fn := fun _ => fun
  | [d] => { results := [.lit (.bool false)], args := [d] }
  | _ => none }
def FnExactSurfaceAmpleWrongFalsely : Prop := fnExactSurfaceAmpleRow.holds Tryd.pinned (OpenSpec.ofChange fnExactSurfaceAmpleWrong)

/- THE SECOND FORM. 'bulk': how many values and letters a reading holds, each counted each time it is reached (what is shared counts as often as it is met; a slice's spare places count too). A statement '..UptoSaid' is the law's where the arguments, and the package variables that the reading takes, are together of bulk at most 1048576: NARROWER than '..Said'. Prove '..Said' where nothing that the law and all that it calls make is longer than what came in: it says more and counts as full. Else prove '..UptoSaid'. A law counts once. -/
mutual
def uptoBulk {H : Type} : DataW H → Nat
  | .lit (.string bytes) => bytes.length + 1
  | .lit _ => 1
  | .nil => 1
  | .ptr d => uptoBulk d + 1
  | .slice elems spare => uptoBulkAll elems + uptoBulkAll spare + 1
  | .agg parts => uptoBulkAll parts + 1
  | .iface _ d => uptoBulk d + 1
  | .map entries => uptoBulkEntries entries + 1
  | .held _ => 1
def uptoBulkAll {H : Type} : List (DataW H) → Nat
  | [] => 0
  | d :: r => uptoBulk d + uptoBulkAll r
def uptoBulkEntries {H : Type} : List (Lit × DataW H) → Nat
  | [] => 0
  | x :: r => uptoBulkEntry x + uptoBulkEntries r
def uptoBulkEntry {H : Type} : Lit × DataW H → Nat
  | (.string bytes, d) => bytes.length + uptoBulk d + 1
  | (_, d) => uptoBulk d + 1
 end
def uptoSmall : (H : Type) → List (DataW H) → Bool := fun _ ds => decide (uptoBulkAll ds ≤ 1048576)
def OpenSpec.upto (s : _root_.Go.ChangeSpec) : _root_.Go.OpenSpec := { _root_.Go.OpenSpec.ofChange s with cond := some uptoSmall }

/-- 'laws.FnNumbers', WHERE WHAT IT READS IS OF BULK AT MOST 1048576: true; the input reads as it did. -/
def fnNumbersUptoRow : OpenClaim := { program := "ytnhanbaaclkjaaadoor", sum := "a7588a9b78949408c791abc2a6333441b69c0ae91866e153ee29e094adf0efe1", func := "loop.example/toricfans/laws.FnNumbers", spec := "fnNumbers", inPlace := ["internal/reflectlite.ValueOf", "(internal/reflectlite.Value).Type", "(internal/reflectlite.Value).IsNil", "internal/reflectlite.TypeOf", "(internal/reflectlite.Value).Elem", "(internal/reflectlite.Value).Set"], unfollowed := true, recurses := true, named := ["errors.errorType"], plainKeys := false, apart := false, laid := [("errors.errorType", laid_errors_errorType)], narrowed := true }
def FnNumbersUptoSaid : Prop := fnNumbersUptoRow.holds Tryd.pinned (OpenSpec.upto fnNumbersSpec)

/-- 'laws.FnSurfaceDet', WHERE WHAT IT READS IS OF BULK AT MOST 1048576: true; the input reads as it did. -/
def fnSurfaceDetUptoRow : OpenClaim := { program := "ytnhanbaaclkjaaadoor", sum := "a7588a9b78949408c791abc2a6333441b69c0ae91866e153ee29e094adf0efe1", func := "loop.example/toricfans/laws.FnSurfaceDet", spec := "fnSurfaceDet", inPlace := ["internal/reflectlite.ValueOf", "(internal/reflectlite.Value).Type", "(internal/reflectlite.Value).IsNil", "internal/reflectlite.TypeOf", "(internal/reflectlite.Value).Elem", "(internal/reflectlite.Value).Set"], unfollowed := true, recurses := true, named := ["errors.errorType"], plainKeys := false, apart := false, laid := [("errors.errorType", laid_errors_errorType)], narrowed := true }
def FnSurfaceDetUptoSaid : Prop := fnSurfaceDetUptoRow.holds Tryd.pinned (OpenSpec.upto fnSurfaceDetSpec)

/-- 'laws.FnExactNumbersFan', WHERE WHAT IT READS IS OF BULK AT MOST 1048576: true; the input reads as it did. -/
def fnExactNumbersFanUptoRow : OpenClaim := { program := "ytnhanbaaclkjaaadoor", sum := "a7588a9b78949408c791abc2a6333441b69c0ae91866e153ee29e094adf0efe1", func := "loop.example/toricfans/laws.FnExactNumbersFan", spec := "fnExactNumbersFan", inPlace := ["internal/reflectlite.ValueOf", "(internal/reflectlite.Value).Type", "(internal/reflectlite.Value).IsNil", "internal/reflectlite.TypeOf", "(internal/reflectlite.Value).Elem", "(internal/reflectlite.Value).Set"], unfollowed := true, recurses := true, named := ["errors.errorType"], plainKeys := false, apart := false, laid := [("errors.errorType", laid_errors_errorType)], narrowed := true }
def FnExactNumbersFanUptoSaid : Prop := fnExactNumbersFanUptoRow.holds Tryd.pinned (OpenSpec.upto fnExactNumbersFanSpec)

/-- 'laws.FnExactNumbersSum', WHERE WHAT IT READS IS OF BULK AT MOST 1048576: true; the input reads as it did. -/
def fnExactNumbersSumUptoRow : OpenClaim := { program := "ytnhanbaaclkjaaadoor", sum := "a7588a9b78949408c791abc2a6333441b69c0ae91866e153ee29e094adf0efe1", func := "loop.example/toricfans/laws.FnExactNumbersSum", spec := "fnExactNumbersSum", inPlace := ["internal/reflectlite.ValueOf", "(internal/reflectlite.Value).Type", "(internal/reflectlite.Value).IsNil", "internal/reflectlite.TypeOf", "(internal/reflectlite.Value).Elem", "(internal/reflectlite.Value).Set"], unfollowed := true, recurses := true, named := ["errors.errorType"], plainKeys := false, apart := false, laid := [("errors.errorType", laid_errors_errorType)], narrowed := true }
def FnExactNumbersSumUptoSaid : Prop := fnExactNumbersSumUptoRow.holds Tryd.pinned (OpenSpec.upto fnExactNumbersSumSpec)

/-- 'laws.FnExactSurfaceRank', WHERE WHAT IT READS IS OF BULK AT MOST 1048576: true; the input reads as it did. -/
def fnExactSurfaceRankUptoRow : OpenClaim := { program := "ytnhanbaaclkjaaadoor", sum := "a7588a9b78949408c791abc2a6333441b69c0ae91866e153ee29e094adf0efe1", func := "loop.example/toricfans/laws.FnExactSurfaceRank", spec := "fnExactSurfaceRank", inPlace := ["internal/reflectlite.ValueOf", "(internal/reflectlite.Value).Type", "(internal/reflectlite.Value).IsNil", "internal/reflectlite.TypeOf", "(internal/reflectlite.Value).Elem", "(internal/reflectlite.Value).Set"], unfollowed := true, recurses := true, named := ["errors.errorType"], plainKeys := false, apart := false, laid := [("errors.errorType", laid_errors_errorType)], narrowed := true }
def FnExactSurfaceRankUptoSaid : Prop := fnExactSurfaceRankUptoRow.holds Tryd.pinned (OpenSpec.upto fnExactSurfaceRankSpec)

/-- 'laws.FnExactSurfaceSquare', WHERE WHAT IT READS IS OF BULK AT MOST 1048576: true; the input reads as it did. -/
def fnExactSurfaceSquareUptoRow : OpenClaim := { program := "ytnhanbaaclkjaaadoor", sum := "a7588a9b78949408c791abc2a6333441b69c0ae91866e153ee29e094adf0efe1", func := "loop.example/toricfans/laws.FnExactSurfaceSquare", spec := "fnExactSurfaceSquare", inPlace := ["internal/reflectlite.ValueOf", "(internal/reflectlite.Value).Type", "(internal/reflectlite.Value).IsNil", "internal/reflectlite.TypeOf", "(internal/reflectlite.Value).Elem", "(internal/reflectlite.Value).Set"], unfollowed := true, recurses := true, named := ["errors.errorType"], plainKeys := false, apart := false, laid := [("errors.errorType", laid_errors_errorType)], narrowed := true }
def FnExactSurfaceSquareUptoSaid : Prop := fnExactSurfaceSquareUptoRow.holds Tryd.pinned (OpenSpec.upto fnExactSurfaceSquareSpec)

/-- 'laws.FnExactSurfaceTable', WHERE WHAT IT READS IS OF BULK AT MOST 1048576: true; the input reads as it did. -/
def fnExactSurfaceTableUptoRow : OpenClaim := { program := "ytnhanbaaclkjaaadoor", sum := "a7588a9b78949408c791abc2a6333441b69c0ae91866e153ee29e094adf0efe1", func := "loop.example/toricfans/laws.FnExactSurfaceTable", spec := "fnExactSurfaceTable", inPlace := ["internal/reflectlite.ValueOf", "(internal/reflectlite.Value).Type", "(internal/reflectlite.Value).IsNil", "internal/reflectlite.TypeOf", "(internal/reflectlite.Value).Elem", "(internal/reflectlite.Value).Set"], unfollowed := true, recurses := true, named := ["errors.errorType"], plainKeys := false, apart := false, laid := [("errors.errorType", laid_errors_errorType)], narrowed := true }
def FnExactSurfaceTableUptoSaid : Prop := fnExactSurfaceTableUptoRow.holds Tryd.pinned (OpenSpec.upto fnExactSurfaceTableSpec)

/-- 'laws.FnExactSurfaceDet', WHERE WHAT IT READS IS OF BULK AT MOST 1048576: true; the input reads as it did. -/
def fnExactSurfaceDetUptoRow : OpenClaim := { program := "ytnhanbaaclkjaaadoor", sum := "a7588a9b78949408c791abc2a6333441b69c0ae91866e153ee29e094adf0efe1", func := "loop.example/toricfans/laws.FnExactSurfaceDet", spec := "fnExactSurfaceDet", inPlace := ["internal/reflectlite.ValueOf", "(internal/reflectlite.Value).Type", "(internal/reflectlite.Value).IsNil", "internal/reflectlite.TypeOf", "(internal/reflectlite.Value).Elem", "(internal/reflectlite.Value).Set"], unfollowed := true, recurses := true, named := ["errors.errorType"], plainKeys := false, apart := false, laid := [("errors.errorType", laid_errors_errorType)], narrowed := true }
def FnExactSurfaceDetUptoSaid : Prop := fnExactSurfaceDetUptoRow.holds Tryd.pinned (OpenSpec.upto fnExactSurfaceDetSpec)

/-- 'laws.FnExactSurfaceAmple', WHERE WHAT IT READS IS OF BULK AT MOST 1048576: true; the input reads as it did. -/
def fnExactSurfaceAmpleUptoRow : OpenClaim := { program := "ytnhanbaaclkjaaadoor", sum := "a7588a9b78949408c791abc2a6333441b69c0ae91866e153ee29e094adf0efe1", func := "loop.example/toricfans/laws.FnExactSurfaceAmple", spec := "fnExactSurfaceAmple", inPlace := ["internal/reflectlite.ValueOf", "(internal/reflectlite.Value).Type", "(internal/reflectlite.Value).IsNil", "internal/reflectlite.TypeOf", "(internal/reflectlite.Value).Elem", "(internal/reflectlite.Value).Set"], unfollowed := true, recurses := true, named := ["errors.errorType"], plainKeys := false, apart := false, laid := [("errors.errorType", laid_errors_errorType)], narrowed := true }
def FnExactSurfaceAmpleUptoSaid : Prop := fnExactSurfaceAmpleUptoRow.holds Tryd.pinned (OpenSpec.upto fnExactSurfaceAmpleSpec)

end Rows
end Go.Proofs.YtnhanbaaclkjaaaDoor
