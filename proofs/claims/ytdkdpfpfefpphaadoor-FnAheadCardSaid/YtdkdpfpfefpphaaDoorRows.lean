/-
  NARROWER THAN 'FOR EVERY INPUT', by the rows' own cells (each row's printed sentence says how): FnAhead: laid · FnMatTurned: laid · FnExactVecIn: laid · FnExactVecAdd: laid · FnExactVecTimes: laid · FnExactVecDet: laid · FnExactVecProduct: laid · FnExactVecPrimitive: laid · FnExactVecTurn: laid · FnExactVecAhead: laid · FnExactMatIn: laid · FnExactMatMove: laid.
  DERIVED. THE GIVEN ROWS OF THIS SEAT. 12 by the template 'for every input the law returns true; each argument reads behind the call as it read before'; 0 by the template 'total and deterministic' (their statements: YtdkdpfpfefpphaaDoorTotals.lean).
  GIVEN WITH THE SEED: the statements are not yours to turn. If you find one false, say at which input.
  Laid BY PROGRAM, IN A SANDBOX (cutbox-rows.mjs): the forced cells as the released guide's own fill.sh prints them over the translation 76a5bb24a9db6bd3… (all of the seat's roots in one cut). By AI agents, Wed Nov 11 2026. No macro, syntax, notation, axiom, sorry.
-/
import Derived.Test.YtdkdpfpfefpphaaDoorChecked
import GoSem.Claim
import GoSem.ClaimJoined
import GoSem.ClaimMapViews
import Derived.JoinedTies
import Derived.KernelRfl
namespace Go.Proofs.YtdkdpfpfefpphaaDoor
/- THE CELL 'sum', in the pinned program and in every row, IS THE sha256 OF THE DUMP (.gsa) THAT YtdkdpfpfefpphaaDoorProg.lean LOADS. Nothing in Lean hashes anything: it is a label: what it is worth is what the hold of that sum in a sandbox is worth. -/
noncomputable def Tryd.pinned : Pinned := { name := "ytdkdpfpfefpphaadoor", sum := "76a5bb24a9db6bd31a0f3a0738d3331c71cd73fb81d4b95ad6851688f33e7f36", checked := Tryd.checked }
namespace Rows
def none {H : Type} : Left H := { results := [], args := [] }

/- WHAT THE LISTED PACKAGE-LEVEL VARIABLES READ AS WHEN THE CALL BEGINS. Each datum BY PROGRAM (the guide's laid-datum.mjs) off the statement by which the dump's own 'gosem.cut.vars' lays the variable. In a bare row this is a premise. The card (YtdkdpfpfefpphaaDoorCards.lean) ties it to the program's text. -/
def laid_errors_errorType {H : Type} : DataW H := .iface "internal/reflectlite.rtype" (.agg [.ptr (.lit (.string [101, 114, 114, 111, 114]))])

/-- 'laws.FnAhead': WHATEVER THE INPUT: true; the input reads as it did. -/
def fnAheadSpec : ChangeSpec := { name := "fnAhead", fn := fun _ => fun
  | [d] => { results := [.lit (.bool true)], args := [d] }
  | _ => none }
def fnAheadRow : OpenClaim := { program := "ytdkdpfpfefpphaadoor", sum := "76a5bb24a9db6bd31a0f3a0738d3331c71cd73fb81d4b95ad6851688f33e7f36", func := "loop.example/toricfans/laws.FnAhead", spec := "fnAhead", inPlace := ["internal/reflectlite.ValueOf", "(internal/reflectlite.Value).Type", "(internal/reflectlite.Value).IsNil", "internal/reflectlite.TypeOf", "(internal/reflectlite.Value).Elem", "(internal/reflectlite.Value).Set"], unfollowed := true, recurses := true, named := ["errors.errorType"], apart := false, laid := [("errors.errorType", laid_errors_errorType)] }
def FnAheadSaid : Prop := fnAheadRow.holds Tryd.pinned (OpenSpec.ofChange fnAheadSpec)

/-- ITS FALSE NEIGHBOUR: 'it returns false'. Refute it at one input. -/
def fnAheadWrong : ChangeSpec := { name := "fnAhead", fn := fun _ => fun
  | [d] => { results := [.lit (.bool false)], args := [d] }
  | _ => none }
def FnAheadWrongFalsely : Prop := fnAheadRow.holds Tryd.pinned (OpenSpec.ofChange fnAheadWrong)

/-- 'laws.FnMatTurned': WHATEVER THE INPUT: true; the input reads as it did. -/
def fnMatTurnedSpec : ChangeSpec := { name := "fnMatTurned", fn := fun _ => fun
  | [d] => { results := [.lit (.bool true)], args := [d] }
  | _ => none }
def fnMatTurnedRow : OpenClaim := { program := "ytdkdpfpfefpphaadoor", sum := "76a5bb24a9db6bd31a0f3a0738d3331c71cd73fb81d4b95ad6851688f33e7f36", func := "loop.example/toricfans/laws.FnMatTurned", spec := "fnMatTurned", inPlace := ["internal/reflectlite.ValueOf", "(internal/reflectlite.Value).Type", "(internal/reflectlite.Value).IsNil", "internal/reflectlite.TypeOf", "(internal/reflectlite.Value).Elem", "(internal/reflectlite.Value).Set"], unfollowed := true, recurses := true, named := ["errors.errorType"], apart := false, laid := [("errors.errorType", laid_errors_errorType)] }
def FnMatTurnedSaid : Prop := fnMatTurnedRow.holds Tryd.pinned (OpenSpec.ofChange fnMatTurnedSpec)

/-- ITS FALSE NEIGHBOUR: 'it returns false'. Refute it at one input. -/
def fnMatTurnedWrong : ChangeSpec := { name := "fnMatTurned", fn := fun _ => fun
  | [d] => { results := [.lit (.bool false)], args := [d] }
  | _ => none }
def FnMatTurnedWrongFalsely : Prop := fnMatTurnedRow.holds Tryd.pinned (OpenSpec.ofChange fnMatTurnedWrong)

/-- 'laws.FnExactVecIn': WHATEVER THE INPUT: true; the input reads as it did. -/
def fnExactVecInSpec : ChangeSpec := { name := "fnExactVecIn", fn := fun _ => fun
  | [d] => { results := [.lit (.bool true)], args := [d] }
  | _ => none }
def fnExactVecInRow : OpenClaim := { program := "ytdkdpfpfefpphaadoor", sum := "76a5bb24a9db6bd31a0f3a0738d3331c71cd73fb81d4b95ad6851688f33e7f36", func := "loop.example/toricfans/laws.FnExactVecIn", spec := "fnExactVecIn", inPlace := ["internal/reflectlite.ValueOf", "(internal/reflectlite.Value).Type", "(internal/reflectlite.Value).IsNil", "internal/reflectlite.TypeOf", "(internal/reflectlite.Value).Elem", "(internal/reflectlite.Value).Set"], unfollowed := true, recurses := true, named := ["errors.errorType"], apart := false, laid := [("errors.errorType", laid_errors_errorType)] }
def FnExactVecInSaid : Prop := fnExactVecInRow.holds Tryd.pinned (OpenSpec.ofChange fnExactVecInSpec)

/-- ITS FALSE NEIGHBOUR: 'it returns false'. Refute it at one input. -/
def fnExactVecInWrong : ChangeSpec := { name := "fnExactVecIn", fn := fun _ => fun
  | [d] => { results := [.lit (.bool false)], args := [d] }
  | _ => none }
def FnExactVecInWrongFalsely : Prop := fnExactVecInRow.holds Tryd.pinned (OpenSpec.ofChange fnExactVecInWrong)

/-- 'laws.FnExactVecAdd': WHATEVER THE INPUT: true; the input reads as it did. -/
def fnExactVecAddSpec : ChangeSpec := { name := "fnExactVecAdd", fn := fun _ => fun
  | [d1, d2] => { results := [.lit (.bool true)], args := [d1, d2] }
  | _ => none }
def fnExactVecAddRow : OpenClaim := { program := "ytdkdpfpfefpphaadoor", sum := "76a5bb24a9db6bd31a0f3a0738d3331c71cd73fb81d4b95ad6851688f33e7f36", func := "loop.example/toricfans/laws.FnExactVecAdd", spec := "fnExactVecAdd", inPlace := ["internal/reflectlite.ValueOf", "(internal/reflectlite.Value).Type", "(internal/reflectlite.Value).IsNil", "internal/reflectlite.TypeOf", "(internal/reflectlite.Value).Elem", "(internal/reflectlite.Value).Set"], unfollowed := true, recurses := true, named := ["errors.errorType"], apart := false, laid := [("errors.errorType", laid_errors_errorType)] }
def FnExactVecAddSaid : Prop := fnExactVecAddRow.holds Tryd.pinned (OpenSpec.ofChange fnExactVecAddSpec)

/-- ITS FALSE NEIGHBOUR: 'it returns false'. Refute it at one input. -/
def fnExactVecAddWrong : ChangeSpec := { name := "fnExactVecAdd", fn := fun _ => fun
  | [d1, d2] => { results := [.lit (.bool false)], args := [d1, d2] }
  | _ => none }
def FnExactVecAddWrongFalsely : Prop := fnExactVecAddRow.holds Tryd.pinned (OpenSpec.ofChange fnExactVecAddWrong)

/-- 'laws.FnExactVecTimes': WHATEVER THE INPUT: true; the input reads as it did. -/
def fnExactVecTimesSpec : ChangeSpec := { name := "fnExactVecTimes", fn := fun _ => fun
  | [d1, d2] => { results := [.lit (.bool true)], args := [d1, d2] }
  | _ => none }
def fnExactVecTimesRow : OpenClaim := { program := "ytdkdpfpfefpphaadoor", sum := "76a5bb24a9db6bd31a0f3a0738d3331c71cd73fb81d4b95ad6851688f33e7f36", func := "loop.example/toricfans/laws.FnExactVecTimes", spec := "fnExactVecTimes", inPlace := ["internal/reflectlite.ValueOf", "(internal/reflectlite.Value).Type", "(internal/reflectlite.Value).IsNil", "internal/reflectlite.TypeOf", "(internal/reflectlite.Value).Elem", "(internal/reflectlite.Value).Set"], unfollowed := true, recurses := true, named := ["errors.errorType"], apart := false, laid := [("errors.errorType", laid_errors_errorType)] }
def FnExactVecTimesSaid : Prop := fnExactVecTimesRow.holds Tryd.pinned (OpenSpec.ofChange fnExactVecTimesSpec)

/-- ITS FALSE NEIGHBOUR: 'it returns false'. Refute it at one input. -/
def fnExactVecTimesWrong : ChangeSpec := { name := "fnExactVecTimes", fn := fun _ => fun
  | [d1, d2] => { results := [.lit (.bool false)], args := [d1, d2] }
  | _ => none }
def FnExactVecTimesWrongFalsely : Prop := fnExactVecTimesRow.holds Tryd.pinned (OpenSpec.ofChange fnExactVecTimesWrong)

/-- 'laws.FnExactVecDet': WHATEVER THE INPUT: true; the input reads as it did. -/
def fnExactVecDetSpec : ChangeSpec := { name := "fnExactVecDet", fn := fun _ => fun
  | [d1, d2] => { results := [.lit (.bool true)], args := [d1, d2] }
  | _ => none }
def fnExactVecDetRow : OpenClaim := { program := "ytdkdpfpfefpphaadoor", sum := "76a5bb24a9db6bd31a0f3a0738d3331c71cd73fb81d4b95ad6851688f33e7f36", func := "loop.example/toricfans/laws.FnExactVecDet", spec := "fnExactVecDet", inPlace := ["internal/reflectlite.ValueOf", "(internal/reflectlite.Value).Type", "(internal/reflectlite.Value).IsNil", "internal/reflectlite.TypeOf", "(internal/reflectlite.Value).Elem", "(internal/reflectlite.Value).Set"], unfollowed := true, recurses := true, named := ["errors.errorType"], apart := false, laid := [("errors.errorType", laid_errors_errorType)] }
def FnExactVecDetSaid : Prop := fnExactVecDetRow.holds Tryd.pinned (OpenSpec.ofChange fnExactVecDetSpec)

/-- ITS FALSE NEIGHBOUR: 'it returns false'. Refute it at one input. -/
def fnExactVecDetWrong : ChangeSpec := { name := "fnExactVecDet", fn := fun _ => fun
  | [d1, d2] => { results := [.lit (.bool false)], args := [d1, d2] }
  | _ => none }
def FnExactVecDetWrongFalsely : Prop := fnExactVecDetRow.holds Tryd.pinned (OpenSpec.ofChange fnExactVecDetWrong)

/-- 'laws.FnExactVecProduct': WHATEVER THE INPUT: true; the input reads as it did. -/
def fnExactVecProductSpec : ChangeSpec := { name := "fnExactVecProduct", fn := fun _ => fun
  | [d1, d2] => { results := [.lit (.bool true)], args := [d1, d2] }
  | _ => none }
def fnExactVecProductRow : OpenClaim := { program := "ytdkdpfpfefpphaadoor", sum := "76a5bb24a9db6bd31a0f3a0738d3331c71cd73fb81d4b95ad6851688f33e7f36", func := "loop.example/toricfans/laws.FnExactVecProduct", spec := "fnExactVecProduct", inPlace := ["internal/reflectlite.ValueOf", "(internal/reflectlite.Value).Type", "(internal/reflectlite.Value).IsNil", "internal/reflectlite.TypeOf", "(internal/reflectlite.Value).Elem", "(internal/reflectlite.Value).Set"], unfollowed := true, recurses := true, named := ["errors.errorType"], apart := false, laid := [("errors.errorType", laid_errors_errorType)] }
def FnExactVecProductSaid : Prop := fnExactVecProductRow.holds Tryd.pinned (OpenSpec.ofChange fnExactVecProductSpec)

/-- ITS FALSE NEIGHBOUR: 'it returns false'. Refute it at one input. -/
def fnExactVecProductWrong : ChangeSpec := { name := "fnExactVecProduct", fn := fun _ => fun
  | [d1, d2] => { results := [.lit (.bool false)], args := [d1, d2] }
  | _ => none }
def FnExactVecProductWrongFalsely : Prop := fnExactVecProductRow.holds Tryd.pinned (OpenSpec.ofChange fnExactVecProductWrong)

/-- 'laws.FnExactVecPrimitive': WHATEVER THE INPUT: true; the input reads as it did. -/
def fnExactVecPrimitiveSpec : ChangeSpec := { name := "fnExactVecPrimitive", fn := fun _ => fun
  | [d] => { results := [.lit (.bool true)], args := [d] }
  | _ => none }
def fnExactVecPrimitiveRow : OpenClaim := { program := "ytdkdpfpfefpphaadoor", sum := "76a5bb24a9db6bd31a0f3a0738d3331c71cd73fb81d4b95ad6851688f33e7f36", func := "loop.example/toricfans/laws.FnExactVecPrimitive", spec := "fnExactVecPrimitive", inPlace := ["internal/reflectlite.ValueOf", "(internal/reflectlite.Value).Type", "(internal/reflectlite.Value).IsNil", "internal/reflectlite.TypeOf", "(internal/reflectlite.Value).Elem", "(internal/reflectlite.Value).Set"], unfollowed := true, recurses := true, named := ["errors.errorType"], apart := false, laid := [("errors.errorType", laid_errors_errorType)] }
def FnExactVecPrimitiveSaid : Prop := fnExactVecPrimitiveRow.holds Tryd.pinned (OpenSpec.ofChange fnExactVecPrimitiveSpec)

/-- ITS FALSE NEIGHBOUR: 'it returns false'. Refute it at one input. -/
def fnExactVecPrimitiveWrong : ChangeSpec := { name := "fnExactVecPrimitive", fn := fun _ => fun
  | [d] => { results := [.lit (.bool false)], args := [d] }
  | _ => none }
def FnExactVecPrimitiveWrongFalsely : Prop := fnExactVecPrimitiveRow.holds Tryd.pinned (OpenSpec.ofChange fnExactVecPrimitiveWrong)

/-- 'laws.FnExactVecTurn': WHATEVER THE INPUT: true; the input reads as it did. -/
def fnExactVecTurnSpec : ChangeSpec := { name := "fnExactVecTurn", fn := fun _ => fun
  | [d] => { results := [.lit (.bool true)], args := [d] }
  | _ => none }
def fnExactVecTurnRow : OpenClaim := { program := "ytdkdpfpfefpphaadoor", sum := "76a5bb24a9db6bd31a0f3a0738d3331c71cd73fb81d4b95ad6851688f33e7f36", func := "loop.example/toricfans/laws.FnExactVecTurn", spec := "fnExactVecTurn", inPlace := ["internal/reflectlite.ValueOf", "(internal/reflectlite.Value).Type", "(internal/reflectlite.Value).IsNil", "internal/reflectlite.TypeOf", "(internal/reflectlite.Value).Elem", "(internal/reflectlite.Value).Set"], unfollowed := true, recurses := true, named := ["errors.errorType"], apart := false, laid := [("errors.errorType", laid_errors_errorType)] }
def FnExactVecTurnSaid : Prop := fnExactVecTurnRow.holds Tryd.pinned (OpenSpec.ofChange fnExactVecTurnSpec)

/-- ITS FALSE NEIGHBOUR: 'it returns false'. Refute it at one input. -/
def fnExactVecTurnWrong : ChangeSpec := { name := "fnExactVecTurn", fn := fun _ => fun
  | [d] => { results := [.lit (.bool false)], args := [d] }
  | _ => none }
def FnExactVecTurnWrongFalsely : Prop := fnExactVecTurnRow.holds Tryd.pinned (OpenSpec.ofChange fnExactVecTurnWrong)

/-- 'laws.FnExactVecAhead': WHATEVER THE INPUT: true; the input reads as it did. -/
def fnExactVecAheadSpec : ChangeSpec := { name := "fnExactVecAhead", fn := fun _ => fun
  | [d1, d2] => { results := [.lit (.bool true)], args := [d1, d2] }
  | _ => none }
def fnExactVecAheadRow : OpenClaim := { program := "ytdkdpfpfefpphaadoor", sum := "76a5bb24a9db6bd31a0f3a0738d3331c71cd73fb81d4b95ad6851688f33e7f36", func := "loop.example/toricfans/laws.FnExactVecAhead", spec := "fnExactVecAhead", inPlace := ["internal/reflectlite.ValueOf", "(internal/reflectlite.Value).Type", "(internal/reflectlite.Value).IsNil", "internal/reflectlite.TypeOf", "(internal/reflectlite.Value).Elem", "(internal/reflectlite.Value).Set"], unfollowed := true, recurses := true, named := ["errors.errorType"], apart := false, laid := [("errors.errorType", laid_errors_errorType)] }
def FnExactVecAheadSaid : Prop := fnExactVecAheadRow.holds Tryd.pinned (OpenSpec.ofChange fnExactVecAheadSpec)

/-- ITS FALSE NEIGHBOUR: 'it returns false'. Refute it at one input. -/
def fnExactVecAheadWrong : ChangeSpec := { name := "fnExactVecAhead", fn := fun _ => fun
  | [d1, d2] => { results := [.lit (.bool false)], args := [d1, d2] }
  | _ => none }
def FnExactVecAheadWrongFalsely : Prop := fnExactVecAheadRow.holds Tryd.pinned (OpenSpec.ofChange fnExactVecAheadWrong)

/-- 'laws.FnExactMatIn': WHATEVER THE INPUT: true; the input reads as it did. -/
def fnExactMatInSpec : ChangeSpec := { name := "fnExactMatIn", fn := fun _ => fun
  | [d] => { results := [.lit (.bool true)], args := [d] }
  | _ => none }
def fnExactMatInRow : OpenClaim := { program := "ytdkdpfpfefpphaadoor", sum := "76a5bb24a9db6bd31a0f3a0738d3331c71cd73fb81d4b95ad6851688f33e7f36", func := "loop.example/toricfans/laws.FnExactMatIn", spec := "fnExactMatIn", inPlace := ["internal/reflectlite.ValueOf", "(internal/reflectlite.Value).Type", "(internal/reflectlite.Value).IsNil", "internal/reflectlite.TypeOf", "(internal/reflectlite.Value).Elem", "(internal/reflectlite.Value).Set"], unfollowed := true, recurses := true, named := ["errors.errorType"], apart := false, laid := [("errors.errorType", laid_errors_errorType)] }
def FnExactMatInSaid : Prop := fnExactMatInRow.holds Tryd.pinned (OpenSpec.ofChange fnExactMatInSpec)

/-- ITS FALSE NEIGHBOUR: 'it returns false'. Refute it at one input. -/
def fnExactMatInWrong : ChangeSpec := { name := "fnExactMatIn", fn := fun _ => fun
  | [d] => { results := [.lit (.bool false)], args := [d] }
  | _ => none }
def FnExactMatInWrongFalsely : Prop := fnExactMatInRow.holds Tryd.pinned (OpenSpec.ofChange fnExactMatInWrong)

/-- 'laws.FnExactMatMove': WHATEVER THE INPUT: true; the input reads as it did. -/
def fnExactMatMoveSpec : ChangeSpec := { name := "fnExactMatMove", fn := fun _ => fun
  | [d1, d2] => { results := [.lit (.bool true)], args := [d1, d2] }
  | _ => none }
def fnExactMatMoveRow : OpenClaim := { program := "ytdkdpfpfefpphaadoor", sum := "76a5bb24a9db6bd31a0f3a0738d3331c71cd73fb81d4b95ad6851688f33e7f36", func := "loop.example/toricfans/laws.FnExactMatMove", spec := "fnExactMatMove", inPlace := ["internal/reflectlite.ValueOf", "(internal/reflectlite.Value).Type", "(internal/reflectlite.Value).IsNil", "internal/reflectlite.TypeOf", "(internal/reflectlite.Value).Elem", "(internal/reflectlite.Value).Set"], unfollowed := true, recurses := true, named := ["errors.errorType"], apart := false, laid := [("errors.errorType", laid_errors_errorType)] }
def FnExactMatMoveSaid : Prop := fnExactMatMoveRow.holds Tryd.pinned (OpenSpec.ofChange fnExactMatMoveSpec)

/-- ITS FALSE NEIGHBOUR: 'it returns false'. Refute it at one input. -/
def fnExactMatMoveWrong : ChangeSpec := { name := "fnExactMatMove", fn := fun _ => fun
  | [d1, d2] => { results := [.lit (.bool false)], args := [d1, d2] }
  | _ => none }
def FnExactMatMoveWrongFalsely : Prop := fnExactMatMoveRow.holds Tryd.pinned (OpenSpec.ofChange fnExactMatMoveWrong)

/- THE SECOND FORM. 'bulk': how many values and letters a reading holds, each counted each time it is reached (what is shared counts as often as it is met; a slice's spare places count too). A statement '..UptoSaid' is the law's where the arguments, and the package variables that the reading takes, are together of bulk at most 1048576: NARROWER than '..Said'. Prove '..Said' where nothing that the law and all that it calls make is longer than what came in: it says more and counts as full. Else prove '..UptoSaid'. A law counts once. -/
mutual
def uptoBulk {H : Type} : DataW H → Nat
  | .lit (.string bytes) => bytes.length + 1
  | .lit _ => 1
  | .nil => 1
  | .ptr d => uptoBulk d + 1
  | .slice elems spare => uptoBulkAll elems + uptoBulkAll spare + 1
  | .agg parts => uptoBulkAll parts + 1
  | .iface _ d => uptoBulk d + 1
  | .map entries => uptoBulkEntries entries + 1
  | .held _ => 1
def uptoBulkAll {H : Type} : List (DataW H) → Nat
  | [] => 0
  | d :: r => uptoBulk d + uptoBulkAll r
def uptoBulkEntries {H : Type} : List (Lit × DataW H) → Nat
  | [] => 0
  | x :: r => uptoBulkEntry x + uptoBulkEntries r
def uptoBulkEntry {H : Type} : Lit × DataW H → Nat
  | (.string bytes, d) => bytes.length + uptoBulk d + 1
  | (_, d) => uptoBulk d + 1
 end
def uptoSmall : (H : Type) → List (DataW H) → Bool := fun _ ds => decide (uptoBulkAll ds ≤ 1048576)
def OpenSpec.upto (s : _root_.Go.ChangeSpec) : _root_.Go.OpenSpec := { _root_.Go.OpenSpec.ofChange s with cond := some uptoSmall }

/-- 'laws.FnAhead', WHERE WHAT IT READS IS OF BULK AT MOST 1048576: true; the input reads as it did. -/
def fnAheadUptoRow : OpenClaim := { program := "ytdkdpfpfefpphaadoor", sum := "76a5bb24a9db6bd31a0f3a0738d3331c71cd73fb81d4b95ad6851688f33e7f36", func := "loop.example/toricfans/laws.FnAhead", spec := "fnAhead", inPlace := ["internal/reflectlite.ValueOf", "(internal/reflectlite.Value).Type", "(internal/reflectlite.Value).IsNil", "internal/reflectlite.TypeOf", "(internal/reflectlite.Value).Elem", "(internal/reflectlite.Value).Set"], unfollowed := true, recurses := true, named := ["errors.errorType"], apart := false, laid := [("errors.errorType", laid_errors_errorType)], narrowed := true }
def FnAheadUptoSaid : Prop := fnAheadUptoRow.holds Tryd.pinned (OpenSpec.upto fnAheadSpec)

/-- 'laws.FnMatTurned', WHERE WHAT IT READS IS OF BULK AT MOST 1048576: true; the input reads as it did. -/
def fnMatTurnedUptoRow : OpenClaim := { program := "ytdkdpfpfefpphaadoor", sum := "76a5bb24a9db6bd31a0f3a0738d3331c71cd73fb81d4b95ad6851688f33e7f36", func := "loop.example/toricfans/laws.FnMatTurned", spec := "fnMatTurned", inPlace := ["internal/reflectlite.ValueOf", "(internal/reflectlite.Value).Type", "(internal/reflectlite.Value).IsNil", "internal/reflectlite.TypeOf", "(internal/reflectlite.Value).Elem", "(internal/reflectlite.Value).Set"], unfollowed := true, recurses := true, named := ["errors.errorType"], apart := false, laid := [("errors.errorType", laid_errors_errorType)], narrowed := true }
def FnMatTurnedUptoSaid : Prop := fnMatTurnedUptoRow.holds Tryd.pinned (OpenSpec.upto fnMatTurnedSpec)

/-- 'laws.FnExactVecIn', WHERE WHAT IT READS IS OF BULK AT MOST 1048576: true; the input reads as it did. -/
def fnExactVecInUptoRow : OpenClaim := { program := "ytdkdpfpfefpphaadoor", sum := "76a5bb24a9db6bd31a0f3a0738d3331c71cd73fb81d4b95ad6851688f33e7f36", func := "loop.example/toricfans/laws.FnExactVecIn", spec := "fnExactVecIn", inPlace := ["internal/reflectlite.ValueOf", "(internal/reflectlite.Value).Type", "(internal/reflectlite.Value).IsNil", "internal/reflectlite.TypeOf", "(internal/reflectlite.Value).Elem", "(internal/reflectlite.Value).Set"], unfollowed := true, recurses := true, named := ["errors.errorType"], apart := false, laid := [("errors.errorType", laid_errors_errorType)], narrowed := true }
def FnExactVecInUptoSaid : Prop := fnExactVecInUptoRow.holds Tryd.pinned (OpenSpec.upto fnExactVecInSpec)

/-- 'laws.FnExactVecAdd', WHERE WHAT IT READS IS OF BULK AT MOST 1048576: true; the input reads as it did. -/
def fnExactVecAddUptoRow : OpenClaim := { program := "ytdkdpfpfefpphaadoor", sum := "76a5bb24a9db6bd31a0f3a0738d3331c71cd73fb81d4b95ad6851688f33e7f36", func := "loop.example/toricfans/laws.FnExactVecAdd", spec := "fnExactVecAdd", inPlace := ["internal/reflectlite.ValueOf", "(internal/reflectlite.Value).Type", "(internal/reflectlite.Value).IsNil", "internal/reflectlite.TypeOf", "(internal/reflectlite.Value).Elem", "(internal/reflectlite.Value).Set"], unfollowed := true, recurses := true, named := ["errors.errorType"], apart := false, laid := [("errors.errorType", laid_errors_errorType)], narrowed := true }
def FnExactVecAddUptoSaid : Prop := fnExactVecAddUptoRow.holds Tryd.pinned (OpenSpec.upto fnExactVecAddSpec)

/-- 'laws.FnExactVecTimes', WHERE WHAT IT READS IS OF BULK AT MOST 1048576: true; the input reads as it did. -/
def fnExactVecTimesUptoRow : OpenClaim := { program := "ytdkdpfpfefpphaadoor", sum := "76a5bb24a9db6bd31a0f3a0738d3331c71cd73fb81d4b95ad6851688f33e7f36", func := "loop.example/toricfans/laws.FnExactVecTimes", spec := "fnExactVecTimes", inPlace := ["internal/reflectlite.ValueOf", "(internal/reflectlite.Value).Type", "(internal/reflectlite.Value).IsNil", "internal/reflectlite.TypeOf", "(internal/reflectlite.Value).Elem", "(internal/reflectlite.Value).Set"], unfollowed := true, recurses := true, named := ["errors.errorType"], apart := false, laid := [("errors.errorType", laid_errors_errorType)], narrowed := true }
def FnExactVecTimesUptoSaid : Prop := fnExactVecTimesUptoRow.holds Tryd.pinned (OpenSpec.upto fnExactVecTimesSpec)

/-- 'laws.FnExactVecDet', WHERE WHAT IT READS IS OF BULK AT MOST 1048576: true; the input reads as it did. -/
def fnExactVecDetUptoRow : OpenClaim := { program := "ytdkdpfpfefpphaadoor", sum := "76a5bb24a9db6bd31a0f3a0738d3331c71cd73fb81d4b95ad6851688f33e7f36", func := "loop.example/toricfans/laws.FnExactVecDet", spec := "fnExactVecDet", inPlace := ["internal/reflectlite.ValueOf", "(internal/reflectlite.Value).Type", "(internal/reflectlite.Value).IsNil", "internal/reflectlite.TypeOf", "(internal/reflectlite.Value).Elem", "(internal/reflectlite.Value).Set"], unfollowed := true, recurses := true, named := ["errors.errorType"], apart := false, laid := [("errors.errorType", laid_errors_errorType)], narrowed := true }
def FnExactVecDetUptoSaid : Prop := fnExactVecDetUptoRow.holds Tryd.pinned (OpenSpec.upto fnExactVecDetSpec)

/-- 'laws.FnExactVecProduct', WHERE WHAT IT READS IS OF BULK AT MOST 1048576: true; the input reads as it did. -/
def fnExactVecProductUptoRow : OpenClaim := { program := "ytdkdpfpfefpphaadoor", sum := "76a5bb24a9db6bd31a0f3a0738d3331c71cd73fb81d4b95ad6851688f33e7f36", func := "loop.example/toricfans/laws.FnExactVecProduct", spec := "fnExactVecProduct", inPlace := ["internal/reflectlite.ValueOf", "(internal/reflectlite.Value).Type", "(internal/reflectlite.Value).IsNil", "internal/reflectlite.TypeOf", "(internal/reflectlite.Value).Elem", "(internal/reflectlite.Value).Set"], unfollowed := true, recurses := true, named := ["errors.errorType"], apart := false, laid := [("errors.errorType", laid_errors_errorType)], narrowed := true }
def FnExactVecProductUptoSaid : Prop := fnExactVecProductUptoRow.holds Tryd.pinned (OpenSpec.upto fnExactVecProductSpec)

/-- 'laws.FnExactVecPrimitive', WHERE WHAT IT READS IS OF BULK AT MOST 1048576: true; the input reads as it did. -/
def fnExactVecPrimitiveUptoRow : OpenClaim := { program := "ytdkdpfpfefpphaadoor", sum := "76a5bb24a9db6bd31a0f3a0738d3331c71cd73fb81d4b95ad6851688f33e7f36", func := "loop.example/toricfans/laws.FnExactVecPrimitive", spec := "fnExactVecPrimitive", inPlace := ["internal/reflectlite.ValueOf", "(internal/reflectlite.Value).Type", "(internal/reflectlite.Value).IsNil", "internal/reflectlite.TypeOf", "(internal/reflectlite.Value).Elem", "(internal/reflectlite.Value).Set"], unfollowed := true, recurses := true, named := ["errors.errorType"], apart := false, laid := [("errors.errorType", laid_errors_errorType)], narrowed := true }
def FnExactVecPrimitiveUptoSaid : Prop := fnExactVecPrimitiveUptoRow.holds Tryd.pinned (OpenSpec.upto fnExactVecPrimitiveSpec)

/-- 'laws.FnExactVecTurn', WHERE WHAT IT READS IS OF BULK AT MOST 1048576: true; the input reads as it did. -/
def fnExactVecTurnUptoRow : OpenClaim := { program := "ytdkdpfpfefpphaadoor", sum := "76a5bb24a9db6bd31a0f3a0738d3331c71cd73fb81d4b95ad6851688f33e7f36", func := "loop.example/toricfans/laws.FnExactVecTurn", spec := "fnExactVecTurn", inPlace := ["internal/reflectlite.ValueOf", "(internal/reflectlite.Value).Type", "(internal/reflectlite.Value).IsNil", "internal/reflectlite.TypeOf", "(internal/reflectlite.Value).Elem", "(internal/reflectlite.Value).Set"], unfollowed := true, recurses := true, named := ["errors.errorType"], apart := false, laid := [("errors.errorType", laid_errors_errorType)], narrowed := true }
def FnExactVecTurnUptoSaid : Prop := fnExactVecTurnUptoRow.holds Tryd.pinned (OpenSpec.upto fnExactVecTurnSpec)

/-- 'laws.FnExactVecAhead', WHERE WHAT IT READS IS OF BULK AT MOST 1048576: true; the input reads as it did. -/
def fnExactVecAheadUptoRow : OpenClaim := { program := "ytdkdpfpfefpphaadoor", sum := "76a5bb24a9db6bd31a0f3a0738d3331c71cd73fb81d4b95ad6851688f33e7f36", func := "loop.example/toricfans/laws.FnExactVecAhead", spec := "fnExactVecAhead", inPlace := ["internal/reflectlite.ValueOf", "(internal/reflectlite.Value).Type", "(internal/reflectlite.Value).IsNil", "internal/reflectlite.TypeOf", "(internal/reflectlite.Value).Elem", "(internal/reflectlite.Value).Set"], unfollowed := true, recurses := true, named := ["errors.errorType"], apart := false, laid := [("errors.errorType", laid_errors_errorType)], narrowed := true }
def FnExactVecAheadUptoSaid : Prop := fnExactVecAheadUptoRow.holds Tryd.pinned (OpenSpec.upto fnExactVecAheadSpec)

/-- 'laws.FnExactMatIn', WHERE WHAT IT READS IS OF BULK AT MOST 1048576: true; the input reads as it did. -/
def fnExactMatInUptoRow : OpenClaim := { program := "ytdkdpfpfefpphaadoor", sum := "76a5bb24a9db6bd31a0f3a0738d3331c71cd73fb81d4b95ad6851688f33e7f36", func := "loop.example/toricfans/laws.FnExactMatIn", spec := "fnExactMatIn", inPlace := ["internal/reflectlite.ValueOf", "(internal/reflectlite.Value).Type", "(internal/reflectlite.Value).IsNil", "internal/reflectlite.TypeOf", "(internal/reflectlite.Value).Elem", "(internal/reflectlite.Value).Set"], unfollowed := true, recurses := true, named := ["errors.errorType"], apart := false, laid := [("errors.errorType", laid_errors_errorType)], narrowed := true }
def FnExactMatInUptoSaid : Prop := fnExactMatInUptoRow.holds Tryd.pinned (OpenSpec.upto fnExactMatInSpec)

/-- 'laws.FnExactMatMove', WHERE WHAT IT READS IS OF BULK AT MOST 1048576: true; the input reads as it did. -/
def fnExactMatMoveUptoRow : OpenClaim := { program := "ytdkdpfpfefpphaadoor", sum := "76a5bb24a9db6bd31a0f3a0738d3331c71cd73fb81d4b95ad6851688f33e7f36", func := "loop.example/toricfans/laws.FnExactMatMove", spec := "fnExactMatMove", inPlace := ["internal/reflectlite.ValueOf", "(internal/reflectlite.Value).Type", "(internal/reflectlite.Value).IsNil", "internal/reflectlite.TypeOf", "(internal/reflectlite.Value).Elem", "(internal/reflectlite.Value).Set"], unfollowed := true, recurses := true, named := ["errors.errorType"], apart := false, laid := [("errors.errorType", laid_errors_errorType)], narrowed := true }
def FnExactMatMoveUptoSaid : Prop := fnExactMatMoveUptoRow.holds Tryd.pinned (OpenSpec.upto fnExactMatMoveSpec)

end Rows
end Go.Proofs.YtdkdpfpfefpphaaDoor
