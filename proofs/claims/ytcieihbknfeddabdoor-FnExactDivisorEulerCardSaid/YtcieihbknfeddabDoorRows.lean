/-
  NARROWER THAN 'FOR EVERY INPUT', by the rows' own cells (each row's printed sentence says how): FnExactDivisorIn: laid · FnExactDivisorOf: laid · FnExactDivisorAdd: laid · FnExactDivisorTimes: laid · FnExactDivisorProduct: laid · FnExactDivisorDegrees: laid · FnExactDivisorNef: laid · FnExactDivisorAmple: laid · FnExactDivisorEquivalent: laid · FnExactDivisorCanonical: laid · FnExactDivisorEuler: laid · FnExactDivisorGenus: laid · FnExactSectionBox: laid · FnExactSectionHas: laid.
  DERIVED. THE GIVEN ROWS OF THIS SEAT. 14 by the template 'for every input the law returns true; each argument reads behind the call as it read before'; 0 by the template 'total and deterministic' (their statements: YtcieihbknfeddabDoorTotals.lean).
  GIVEN WITH THE SEED: the statements are not yours to turn. If you find one false, say at which input.
  Laid BY PROGRAM, IN A SANDBOX (cutbox-rows.mjs): the forced cells as the released guide's own fill.sh prints them over the translation 1cb5462580a19ec9… (all of the seat's roots in one cut). By AI agents, Wed Nov 11 2026. No macro, syntax, notation, axiom, sorry.
-/
import Derived.Test.YtcieihbknfeddabDoorChecked
import GoSem.Claim
import GoSem.ClaimJoined
import GoSem.ClaimMapViews
import Derived.JoinedTies
import Derived.KernelRfl
namespace Go.Proofs.YtcieihbknfeddabDoor
/- THE CELL 'sum', in the pinned program and in every row, IS THE sha256 OF THE DUMP (.gsa) THAT YtcieihbknfeddabDoorProg.lean LOADS. Nothing in Lean hashes anything: it is a label: what it is worth is what the hold of that sum in a sandbox is worth. -/
noncomputable def Tryd.pinned : Pinned := { name := "ytcieihbknfeddabdoor", sum := "1cb5462580a19ec9e67d8f41f3feea115822e38db294165e8e862ccfa90375bc", checked := Tryd.checked }
namespace Rows
def none {H : Type} : Left H := { results := [], args := [] }

/- WHAT THE LISTED PACKAGE-LEVEL VARIABLES READ AS WHEN THE CALL BEGINS. Each datum BY PROGRAM (the guide's laid-datum.mjs) off the statement by which the dump's own 'gosem.cut.vars' lays the variable. In a bare row this is a premise. The card (YtcieihbknfeddabDoorCards.lean) ties it to the program's text. -/
def laid_errors_errorType {H : Type} : DataW H := .iface "internal/reflectlite.rtype" (.agg [.ptr (.lit (.string [101, 114, 114, 111, 114]))])

/-- 'laws.FnExactDivisorIn': WHATEVER THE INPUT: true; the input reads as it did. -/
def fnExactDivisorInSpec : ChangeSpec := { name := "fnExactDivisorIn", fn := fun _ => fun
  | [d1, d2] => { results := [.lit (.bool true)], args := [d1, d2] }
  | _ => none }
def fnExactDivisorInRow : OpenClaim := { program := "ytcieihbknfeddabdoor", sum := "1cb5462580a19ec9e67d8f41f3feea115822e38db294165e8e862ccfa90375bc", func := "loop.example/toricfans/laws.FnExactDivisorIn", spec := "fnExactDivisorIn", inPlace := ["internal/reflectlite.ValueOf", "(internal/reflectlite.Value).Type", "(internal/reflectlite.Value).IsNil", "internal/reflectlite.TypeOf", "(internal/reflectlite.Value).Elem", "(internal/reflectlite.Value).Set"], unfollowed := true, recurses := true, named := ["errors.errorType"], apart := false, laid := [("errors.errorType", laid_errors_errorType)] }
def FnExactDivisorInSaid : Prop := fnExactDivisorInRow.holds Tryd.pinned (OpenSpec.ofChange fnExactDivisorInSpec)

/-- ITS FALSE NEIGHBOUR: 'it returns false'. Refute it at one input. -/
def fnExactDivisorInWrong : ChangeSpec := { name := "fnExactDivisorIn", fn := fun _ => fun
  | [d1, d2] => { results := [.lit (.bool false)], args := [d1, d2] }
  | _ => none }
def FnExactDivisorInWrongFalsely : Prop := fnExactDivisorInRow.holds Tryd.pinned (OpenSpec.ofChange fnExactDivisorInWrong)

/-- 'laws.FnExactDivisorOf': WHATEVER THE INPUT: true; the input reads as it did. -/
def fnExactDivisorOfSpec : ChangeSpec := { name := "fnExactDivisorOf", fn := fun _ => fun
  | [d1, d2] => { results := [.lit (.bool true)], args := [d1, d2] }
  | _ => none }
def fnExactDivisorOfRow : OpenClaim := { program := "ytcieihbknfeddabdoor", sum := "1cb5462580a19ec9e67d8f41f3feea115822e38db294165e8e862ccfa90375bc", func := "loop.example/toricfans/laws.FnExactDivisorOf", spec := "fnExactDivisorOf", inPlace := ["internal/reflectlite.ValueOf", "(internal/reflectlite.Value).Type", "(internal/reflectlite.Value).IsNil", "internal/reflectlite.TypeOf", "(internal/reflectlite.Value).Elem", "(internal/reflectlite.Value).Set"], unfollowed := true, recurses := true, named := ["errors.errorType"], apart := false, laid := [("errors.errorType", laid_errors_errorType)] }
def FnExactDivisorOfSaid : Prop := fnExactDivisorOfRow.holds Tryd.pinned (OpenSpec.ofChange fnExactDivisorOfSpec)

/-- ITS FALSE NEIGHBOUR: 'it returns false'. Refute it at one input. -/
def fnExactDivisorOfWrong : ChangeSpec := { name := "fnExactDivisorOf", fn := fun _ => fun
  | [d1, d2] => { results := [.lit (.bool false)], args := [d1, d2] }
  | _ => none }
def FnExactDivisorOfWrongFalsely : Prop := fnExactDivisorOfRow.holds Tryd.pinned (OpenSpec.ofChange fnExactDivisorOfWrong)

/-- 'laws.FnExactDivisorAdd': WHATEVER THE INPUT: true; the input reads as it did. -/
def fnExactDivisorAddSpec : ChangeSpec := { name := "fnExactDivisorAdd", fn := fun _ => fun
  | [d1, d2, d3] => { results := [.lit (.bool true)], args := [d1, d2, d3] }
  | _ => none }
def fnExactDivisorAddRow : OpenClaim := { program := "ytcieihbknfeddabdoor", sum := "1cb5462580a19ec9e67d8f41f3feea115822e38db294165e8e862ccfa90375bc", func := "loop.example/toricfans/laws.FnExactDivisorAdd", spec := "fnExactDivisorAdd", inPlace := ["internal/reflectlite.ValueOf", "(internal/reflectlite.Value).Type", "(internal/reflectlite.Value).IsNil", "internal/reflectlite.TypeOf", "(internal/reflectlite.Value).Elem", "(internal/reflectlite.Value).Set"], unfollowed := true, recurses := true, named := ["errors.errorType"], apart := false, laid := [("errors.errorType", laid_errors_errorType)] }
def FnExactDivisorAddSaid : Prop := fnExactDivisorAddRow.holds Tryd.pinned (OpenSpec.ofChange fnExactDivisorAddSpec)

/-- ITS FALSE NEIGHBOUR: 'it returns false'. Refute it at one input. -/
def fnExactDivisorAddWrong : ChangeSpec := { name := "fnExactDivisorAdd", fn := fun _ => fun
  | [d1, d2, d3] => { results := [.lit (.bool false)], args := [d1, d2, d3] }
  | _ => none }
def FnExactDivisorAddWrongFalsely : Prop := fnExactDivisorAddRow.holds Tryd.pinned (OpenSpec.ofChange fnExactDivisorAddWrong)

/-- 'laws.FnExactDivisorTimes': WHATEVER THE INPUT: true; the input reads as it did. -/
def fnExactDivisorTimesSpec : ChangeSpec := { name := "fnExactDivisorTimes", fn := fun _ => fun
  | [d1, d2, d3] => { results := [.lit (.bool true)], args := [d1, d2, d3] }
  | _ => none }
def fnExactDivisorTimesRow : OpenClaim := { program := "ytcieihbknfeddabdoor", sum := "1cb5462580a19ec9e67d8f41f3feea115822e38db294165e8e862ccfa90375bc", func := "loop.example/toricfans/laws.FnExactDivisorTimes", spec := "fnExactDivisorTimes", inPlace := ["internal/reflectlite.ValueOf", "(internal/reflectlite.Value).Type", "(internal/reflectlite.Value).IsNil", "internal/reflectlite.TypeOf", "(internal/reflectlite.Value).Elem", "(internal/reflectlite.Value).Set"], unfollowed := true, recurses := true, named := ["errors.errorType"], apart := false, laid := [("errors.errorType", laid_errors_errorType)] }
def FnExactDivisorTimesSaid : Prop := fnExactDivisorTimesRow.holds Tryd.pinned (OpenSpec.ofChange fnExactDivisorTimesSpec)

/-- ITS FALSE NEIGHBOUR: 'it returns false'. Refute it at one input. -/
def fnExactDivisorTimesWrong : ChangeSpec := { name := "fnExactDivisorTimes", fn := fun _ => fun
  | [d1, d2, d3] => { results := [.lit (.bool false)], args := [d1, d2, d3] }
  | _ => none }
def FnExactDivisorTimesWrongFalsely : Prop := fnExactDivisorTimesRow.holds Tryd.pinned (OpenSpec.ofChange fnExactDivisorTimesWrong)

/-- 'laws.FnExactDivisorProduct': WHATEVER THE INPUT: true; the input reads as it did. -/
def fnExactDivisorProductSpec : ChangeSpec := { name := "fnExactDivisorProduct", fn := fun _ => fun
  | [d1, d2, d3] => { results := [.lit (.bool true)], args := [d1, d2, d3] }
  | _ => none }
def fnExactDivisorProductRow : OpenClaim := { program := "ytcieihbknfeddabdoor", sum := "1cb5462580a19ec9e67d8f41f3feea115822e38db294165e8e862ccfa90375bc", func := "loop.example/toricfans/laws.FnExactDivisorProduct", spec := "fnExactDivisorProduct", inPlace := ["internal/reflectlite.ValueOf", "(internal/reflectlite.Value).Type", "(internal/reflectlite.Value).IsNil", "internal/reflectlite.TypeOf", "(internal/reflectlite.Value).Elem", "(internal/reflectlite.Value).Set"], unfollowed := true, recurses := true, named := ["errors.errorType"], apart := false, laid := [("errors.errorType", laid_errors_errorType)] }
def FnExactDivisorProductSaid : Prop := fnExactDivisorProductRow.holds Tryd.pinned (OpenSpec.ofChange fnExactDivisorProductSpec)

/-- ITS FALSE NEIGHBOUR: 'it returns false'. Refute it at one input. -/
def fnExactDivisorProductWrong : ChangeSpec := { name := "fnExactDivisorProduct", fn := fun _ => fun
  | [d1, d2, d3] => { results := [.lit (.bool false)], args := [d1, d2, d3] }
  | _ => none }
def FnExactDivisorProductWrongFalsely : Prop := fnExactDivisorProductRow.holds Tryd.pinned (OpenSpec.ofChange fnExactDivisorProductWrong)

/-- 'laws.FnExactDivisorDegrees': WHATEVER THE INPUT: true; the input reads as it did. -/
def fnExactDivisorDegreesSpec : ChangeSpec := { name := "fnExactDivisorDegrees", fn := fun _ => fun
  | [d1, d2] => { results := [.lit (.bool true)], args := [d1, d2] }
  | _ => none }
def fnExactDivisorDegreesRow : OpenClaim := { program := "ytcieihbknfeddabdoor", sum := "1cb5462580a19ec9e67d8f41f3feea115822e38db294165e8e862ccfa90375bc", func := "loop.example/toricfans/laws.FnExactDivisorDegrees", spec := "fnExactDivisorDegrees", inPlace := ["internal/reflectlite.ValueOf", "(internal/reflectlite.Value).Type", "(internal/reflectlite.Value).IsNil", "internal/reflectlite.TypeOf", "(internal/reflectlite.Value).Elem", "(internal/reflectlite.Value).Set"], unfollowed := true, recurses := true, named := ["errors.errorType"], apart := false, laid := [("errors.errorType", laid_errors_errorType)] }
def FnExactDivisorDegreesSaid : Prop := fnExactDivisorDegreesRow.holds Tryd.pinned (OpenSpec.ofChange fnExactDivisorDegreesSpec)

/-- ITS FALSE NEIGHBOUR: 'it returns false'. Refute it at one input. -/
def fnExactDivisorDegreesWrong : ChangeSpec := { name := "fnExactDivisorDegrees", fn := fun _ => fun
  | [d1, d2] => { results := [.lit (.bool false)], args := [d1, d2] }
  | _ => none }
def FnExactDivisorDegreesWrongFalsely : Prop := fnExactDivisorDegreesRow.holds Tryd.pinned (OpenSpec.ofChange fnExactDivisorDegreesWrong)

/-- 'laws.FnExactDivisorNef': WHATEVER THE INPUT: true; the input reads as it did. -/
def fnExactDivisorNefSpec : ChangeSpec := { name := "fnExactDivisorNef", fn := fun _ => fun
  | [d1, d2] => { results := [.lit (.bool true)], args := [d1, d2] }
  | _ => none }
def fnExactDivisorNefRow : OpenClaim := { program := "ytcieihbknfeddabdoor", sum := "1cb5462580a19ec9e67d8f41f3feea115822e38db294165e8e862ccfa90375bc", func := "loop.example/toricfans/laws.FnExactDivisorNef", spec := "fnExactDivisorNef", inPlace := ["internal/reflectlite.ValueOf", "(internal/reflectlite.Value).Type", "(internal/reflectlite.Value).IsNil", "internal/reflectlite.TypeOf", "(internal/reflectlite.Value).Elem", "(internal/reflectlite.Value).Set"], unfollowed := true, recurses := true, named := ["errors.errorType"], apart := false, laid := [("errors.errorType", laid_errors_errorType)] }
def FnExactDivisorNefSaid : Prop := fnExactDivisorNefRow.holds Tryd.pinned (OpenSpec.ofChange fnExactDivisorNefSpec)

/-- ITS FALSE NEIGHBOUR: 'it returns false'. Refute it at one input. -/
def fnExactDivisorNefWrong : ChangeSpec := { name := "fnExactDivisorNef", fn := fun _ => fun
  | [d1, d2] => { results := [.lit (.bool false)], args := [d1, d2] }
  | _ => none }
def FnExactDivisorNefWrongFalsely : Prop := fnExactDivisorNefRow.holds Tryd.pinned (OpenSpec.ofChange fnExactDivisorNefWrong)

/-- 'laws.FnExactDivisorAmple': WHATEVER THE INPUT: true; the input reads as it did. -/
def fnExactDivisorAmpleSpec : ChangeSpec := { name := "fnExactDivisorAmple", fn := fun _ => fun
  | [d1, d2] => { results := [.lit (.bool true)], args := [d1, d2] }
  | _ => none }
def fnExactDivisorAmpleRow : OpenClaim := { program := "ytcieihbknfeddabdoor", sum := "1cb5462580a19ec9e67d8f41f3feea115822e38db294165e8e862ccfa90375bc", func := "loop.example/toricfans/laws.FnExactDivisorAmple", spec := "fnExactDivisorAmple", inPlace := ["internal/reflectlite.ValueOf", "(internal/reflectlite.Value).Type", "(internal/reflectlite.Value).IsNil", "internal/reflectlite.TypeOf", "(internal/reflectlite.Value).Elem", "(internal/reflectlite.Value).Set"], unfollowed := true, recurses := true, named := ["errors.errorType"], apart := false, laid := [("errors.errorType", laid_errors_errorType)] }
def FnExactDivisorAmpleSaid : Prop := fnExactDivisorAmpleRow.holds Tryd.pinned (OpenSpec.ofChange fnExactDivisorAmpleSpec)

/-- ITS FALSE NEIGHBOUR: 'it returns false'. Refute it at one input. -/
def fnExactDivisorAmpleWrong : ChangeSpec := { name := "fnExactDivisorAmple", fn := fun _ => fun
  | [d1, d2] => { results := [.lit (.bool false)], args := [d1, d2] }
  | _ => none }
def FnExactDivisorAmpleWrongFalsely : Prop := fnExactDivisorAmpleRow.holds Tryd.pinned (OpenSpec.ofChange fnExactDivisorAmpleWrong)

/-- 'laws.FnExactDivisorEquivalent': WHATEVER THE INPUT: true; the input reads as it did. -/
def fnExactDivisorEquivalentSpec : ChangeSpec := { name := "fnExactDivisorEquivalent", fn := fun _ => fun
  | [d1, d2, d3] => { results := [.lit (.bool true)], args := [d1, d2, d3] }
  | _ => none }
def fnExactDivisorEquivalentRow : OpenClaim := { program := "ytcieihbknfeddabdoor", sum := "1cb5462580a19ec9e67d8f41f3feea115822e38db294165e8e862ccfa90375bc", func := "loop.example/toricfans/laws.FnExactDivisorEquivalent", spec := "fnExactDivisorEquivalent", inPlace := ["internal/reflectlite.ValueOf", "(internal/reflectlite.Value).Type", "(internal/reflectlite.Value).IsNil", "internal/reflectlite.TypeOf", "(internal/reflectlite.Value).Elem", "(internal/reflectlite.Value).Set"], unfollowed := true, recurses := true, named := ["errors.errorType"], apart := false, laid := [("errors.errorType", laid_errors_errorType)] }
def FnExactDivisorEquivalentSaid : Prop := fnExactDivisorEquivalentRow.holds Tryd.pinned (OpenSpec.ofChange fnExactDivisorEquivalentSpec)

/-- ITS FALSE NEIGHBOUR: 'it returns false'. Refute it at one input. -/
def fnExactDivisorEquivalentWrong : ChangeSpec := { name := "fnExactDivisorEquivalent", fn := fun _ => fun
  | [d1, d2, d3] => { results := [.lit (.bool false)], args := [d1, d2, d3] }
  | _ => none }
def FnExactDivisorEquivalentWrongFalsely : Prop := fnExactDivisorEquivalentRow.holds Tryd.pinned (OpenSpec.ofChange fnExactDivisorEquivalentWrong)

/-- 'laws.FnExactDivisorCanonical': WHATEVER THE INPUT: true; the input reads as it did. -/
def fnExactDivisorCanonicalSpec : ChangeSpec := { name := "fnExactDivisorCanonical", fn := fun _ => fun
  | [d] => { results := [.lit (.bool true)], args := [d] }
  | _ => none }
def fnExactDivisorCanonicalRow : OpenClaim := { program := "ytcieihbknfeddabdoor", sum := "1cb5462580a19ec9e67d8f41f3feea115822e38db294165e8e862ccfa90375bc", func := "loop.example/toricfans/laws.FnExactDivisorCanonical", spec := "fnExactDivisorCanonical", inPlace := ["internal/reflectlite.ValueOf", "(internal/reflectlite.Value).Type", "(internal/reflectlite.Value).IsNil", "internal/reflectlite.TypeOf", "(internal/reflectlite.Value).Elem", "(internal/reflectlite.Value).Set"], unfollowed := true, recurses := true, named := ["errors.errorType"], apart := false, laid := [("errors.errorType", laid_errors_errorType)] }
def FnExactDivisorCanonicalSaid : Prop := fnExactDivisorCanonicalRow.holds Tryd.pinned (OpenSpec.ofChange fnExactDivisorCanonicalSpec)

/-- ITS FALSE NEIGHBOUR: 'it returns false'. Refute it at one input. -/
def fnExactDivisorCanonicalWrong : ChangeSpec := { name := "fnExactDivisorCanonical", fn := fun _ => fun
  | [d] => { results := [.lit (.bool false)], args := [d] }
  | _ => none }
def FnExactDivisorCanonicalWrongFalsely : Prop := fnExactDivisorCanonicalRow.holds Tryd.pinned (OpenSpec.ofChange fnExactDivisorCanonicalWrong)

/-- 'laws.FnExactDivisorEuler': WHATEVER THE INPUT: true; the input reads as it did. -/
def fnExactDivisorEulerSpec : ChangeSpec := { name := "fnExactDivisorEuler", fn := fun _ => fun
  | [d1, d2] => { results := [.lit (.bool true)], args := [d1, d2] }
  | _ => none }
def fnExactDivisorEulerRow : OpenClaim := { program := "ytcieihbknfeddabdoor", sum := "1cb5462580a19ec9e67d8f41f3feea115822e38db294165e8e862ccfa90375bc", func := "loop.example/toricfans/laws.FnExactDivisorEuler", spec := "fnExactDivisorEuler", inPlace := ["internal/reflectlite.ValueOf", "(internal/reflectlite.Value).Type", "(internal/reflectlite.Value).IsNil", "internal/reflectlite.TypeOf", "(internal/reflectlite.Value).Elem", "(internal/reflectlite.Value).Set"], unfollowed := true, recurses := true, named := ["errors.errorType"], apart := false, laid := [("errors.errorType", laid_errors_errorType)] }
def FnExactDivisorEulerSaid : Prop := fnExactDivisorEulerRow.holds Tryd.pinned (OpenSpec.ofChange fnExactDivisorEulerSpec)

/-- ITS FALSE NEIGHBOUR: 'it returns false'. Refute it at one input. -/
def fnExactDivisorEulerWrong : ChangeSpec := { name := "fnExactDivisorEuler", fn := fun _ => fun
  | [d1, d2] => { results := [.lit (.bool false)], args := [d1, d2] }
  | _ => none }
def FnExactDivisorEulerWrongFalsely : Prop := fnExactDivisorEulerRow.holds Tryd.pinned (OpenSpec.ofChange fnExactDivisorEulerWrong)

/-- 'laws.FnExactDivisorGenus': WHATEVER THE INPUT: true; the input reads as it did. -/
def fnExactDivisorGenusSpec : ChangeSpec := { name := "fnExactDivisorGenus", fn := fun _ => fun
  | [d1, d2] => { results := [.lit (.bool true)], args := [d1, d2] }
  | _ => none }
def fnExactDivisorGenusRow : OpenClaim := { program := "ytcieihbknfeddabdoor", sum := "1cb5462580a19ec9e67d8f41f3feea115822e38db294165e8e862ccfa90375bc", func := "loop.example/toricfans/laws.FnExactDivisorGenus", spec := "fnExactDivisorGenus", inPlace := ["internal/reflectlite.ValueOf", "(internal/reflectlite.Value).Type", "(internal/reflectlite.Value).IsNil", "internal/reflectlite.TypeOf", "(internal/reflectlite.Value).Elem", "(internal/reflectlite.Value).Set"], unfollowed := true, recurses := true, named := ["errors.errorType"], apart := false, laid := [("errors.errorType", laid_errors_errorType)] }
def FnExactDivisorGenusSaid : Prop := fnExactDivisorGenusRow.holds Tryd.pinned (OpenSpec.ofChange fnExactDivisorGenusSpec)

/-- ITS FALSE NEIGHBOUR: 'it returns false'. Refute it at one input. -/
def fnExactDivisorGenusWrong : ChangeSpec := { name := "fnExactDivisorGenus", fn := fun _ => fun
  | [d1, d2] => { results := [.lit (.bool false)], args := [d1, d2] }
  | _ => none }
def FnExactDivisorGenusWrongFalsely : Prop := fnExactDivisorGenusRow.holds Tryd.pinned (OpenSpec.ofChange fnExactDivisorGenusWrong)

/-- 'laws.FnExactSectionBox': WHATEVER THE INPUT: true; the input reads as it did. -/
def fnExactSectionBoxSpec : ChangeSpec := { name := "fnExactSectionBox", fn := fun _ => fun
  | [d1, d2] => { results := [.lit (.bool true)], args := [d1, d2] }
  | _ => none }
def fnExactSectionBoxRow : OpenClaim := { program := "ytcieihbknfeddabdoor", sum := "1cb5462580a19ec9e67d8f41f3feea115822e38db294165e8e862ccfa90375bc", func := "loop.example/toricfans/laws.FnExactSectionBox", spec := "fnExactSectionBox", inPlace := ["internal/reflectlite.ValueOf", "(internal/reflectlite.Value).Type", "(internal/reflectlite.Value).IsNil", "internal/reflectlite.TypeOf", "(internal/reflectlite.Value).Elem", "(internal/reflectlite.Value).Set"], unfollowed := true, recurses := true, named := ["errors.errorType"], apart := false, laid := [("errors.errorType", laid_errors_errorType)] }
def FnExactSectionBoxSaid : Prop := fnExactSectionBoxRow.holds Tryd.pinned (OpenSpec.ofChange fnExactSectionBoxSpec)

/-- ITS FALSE NEIGHBOUR: 'it returns false'. Refute it at one input. -/
def fnExactSectionBoxWrong : ChangeSpec := { name := "fnExactSectionBox", fn := fun _ => fun
  | [d1, d2] => { results := [.lit (.bool false)], args := [d1, d2] }
  | _ => none }
def FnExactSectionBoxWrongFalsely : Prop := fnExactSectionBoxRow.holds Tryd.pinned (OpenSpec.ofChange fnExactSectionBoxWrong)

/-- 'laws.FnExactSectionHas': WHATEVER THE INPUT: true; the input reads as it did. -/
def fnExactSectionHasSpec : ChangeSpec := { name := "fnExactSectionHas", fn := fun _ => fun
  | [d1, d2, d3] => { results := [.lit (.bool true)], args := [d1, d2, d3] }
  | _ => none }
def fnExactSectionHasRow : OpenClaim := { program := "ytcieihbknfeddabdoor", sum := "1cb5462580a19ec9e67d8f41f3feea115822e38db294165e8e862ccfa90375bc", func := "loop.example/toricfans/laws.FnExactSectionHas", spec := "fnExactSectionHas", inPlace := ["internal/reflectlite.ValueOf", "(internal/reflectlite.Value).Type", "(internal/reflectlite.Value).IsNil", "internal/reflectlite.TypeOf", "(internal/reflectlite.Value).Elem", "(internal/reflectlite.Value).Set"], unfollowed := true, recurses := true, named := ["errors.errorType"], apart := false, laid := [("errors.errorType", laid_errors_errorType)] }
def FnExactSectionHasSaid : Prop := fnExactSectionHasRow.holds Tryd.pinned (OpenSpec.ofChange fnExactSectionHasSpec)

/-- ITS FALSE NEIGHBOUR: 'it returns false'. Refute it at one input. -/
def fnExactSectionHasWrong : ChangeSpec := { name := "fnExactSectionHas", fn := fun _ => fun
  | [d1, d2, d3] => { results := [.lit (.bool false)], args := [d1, d2, d3] }
  | _ => none }
def FnExactSectionHasWrongFalsely : Prop := fnExactSectionHasRow.holds Tryd.pinned (OpenSpec.ofChange fnExactSectionHasWrong)

/- THE SECOND FORM. 'bulk': how many values and letters a reading holds, each counted each time it is reached (what is shared counts as often as it is met; a slice's spare places count too). A statement '..UptoSaid' is the law's where the arguments, and the package variables that the reading takes, are together of bulk at most 1048576: NARROWER than '..Said'. Prove '..Said' where nothing that the law and all that it calls make is longer than what came in: it says more and counts as full. Else prove '..UptoSaid'. A law counts once. -/
mutual
def uptoBulk {H : Type} : DataW H → Nat
  | .lit (.string bytes) => bytes.length + 1
  | .lit _ => 1
  | .nil => 1
  | .ptr d => uptoBulk d + 1
  | .slice elems spare => uptoBulkAll elems + uptoBulkAll spare + 1
  | .agg parts => uptoBulkAll parts + 1
  | .iface _ d => uptoBulk d + 1
  | .map entries => uptoBulkEntries entries + 1
  | .held _ => 1
def uptoBulkAll {H : Type} : List (DataW H) → Nat
  | [] => 0
  | d :: r => uptoBulk d + uptoBulkAll r
def uptoBulkEntries {H : Type} : List (Lit × DataW H) → Nat
  | [] => 0
  | x :: r => uptoBulkEntry x + uptoBulkEntries r
def uptoBulkEntry {H : Type} : Lit × DataW H → Nat
  | (.string bytes, d) => bytes.length + uptoBulk d + 1
  | (_, d) => uptoBulk d + 1
 end
def uptoSmall : (H : Type) → List (DataW H) → Bool := fun _ ds => decide (uptoBulkAll ds ≤ 1048576)
def OpenSpec.upto (s : _root_.Go.ChangeSpec) : _root_.Go.OpenSpec := { _root_.Go.OpenSpec.ofChange s with cond := some uptoSmall }

/-- 'laws.FnExactDivisorIn', WHERE WHAT IT READS IS OF BULK AT MOST 1048576: true; the input reads as it did. -/
def fnExactDivisorInUptoRow : OpenClaim := { program := "ytcieihbknfeddabdoor", sum := "1cb5462580a19ec9e67d8f41f3feea115822e38db294165e8e862ccfa90375bc", func := "loop.example/toricfans/laws.FnExactDivisorIn", spec := "fnExactDivisorIn", inPlace := ["internal/reflectlite.ValueOf", "(internal/reflectlite.Value).Type", "(internal/reflectlite.Value).IsNil", "internal/reflectlite.TypeOf", "(internal/reflectlite.Value).Elem", "(internal/reflectlite.Value).Set"], unfollowed := true, recurses := true, named := ["errors.errorType"], apart := false, laid := [("errors.errorType", laid_errors_errorType)], narrowed := true }
def FnExactDivisorInUptoSaid : Prop := fnExactDivisorInUptoRow.holds Tryd.pinned (OpenSpec.upto fnExactDivisorInSpec)

/-- 'laws.FnExactDivisorOf', WHERE WHAT IT READS IS OF BULK AT MOST 1048576: true; the input reads as it did. -/
def fnExactDivisorOfUptoRow : OpenClaim := { program := "ytcieihbknfeddabdoor", sum := "1cb5462580a19ec9e67d8f41f3feea115822e38db294165e8e862ccfa90375bc", func := "loop.example/toricfans/laws.FnExactDivisorOf", spec := "fnExactDivisorOf", inPlace := ["internal/reflectlite.ValueOf", "(internal/reflectlite.Value).Type", "(internal/reflectlite.Value).IsNil", "internal/reflectlite.TypeOf", "(internal/reflectlite.Value).Elem", "(internal/reflectlite.Value).Set"], unfollowed := true, recurses := true, named := ["errors.errorType"], apart := false, laid := [("errors.errorType", laid_errors_errorType)], narrowed := true }
def FnExactDivisorOfUptoSaid : Prop := fnExactDivisorOfUptoRow.holds Tryd.pinned (OpenSpec.upto fnExactDivisorOfSpec)

/-- 'laws.FnExactDivisorAdd', WHERE WHAT IT READS IS OF BULK AT MOST 1048576: true; the input reads as it did. -/
def fnExactDivisorAddUptoRow : OpenClaim := { program := "ytcieihbknfeddabdoor", sum := "1cb5462580a19ec9e67d8f41f3feea115822e38db294165e8e862ccfa90375bc", func := "loop.example/toricfans/laws.FnExactDivisorAdd", spec := "fnExactDivisorAdd", inPlace := ["internal/reflectlite.ValueOf", "(internal/reflectlite.Value).Type", "(internal/reflectlite.Value).IsNil", "internal/reflectlite.TypeOf", "(internal/reflectlite.Value).Elem", "(internal/reflectlite.Value).Set"], unfollowed := true, recurses := true, named := ["errors.errorType"], apart := false, laid := [("errors.errorType", laid_errors_errorType)], narrowed := true }
def FnExactDivisorAddUptoSaid : Prop := fnExactDivisorAddUptoRow.holds Tryd.pinned (OpenSpec.upto fnExactDivisorAddSpec)

/-- 'laws.FnExactDivisorTimes', WHERE WHAT IT READS IS OF BULK AT MOST 1048576: true; the input reads as it did. -/
def fnExactDivisorTimesUptoRow : OpenClaim := { program := "ytcieihbknfeddabdoor", sum := "1cb5462580a19ec9e67d8f41f3feea115822e38db294165e8e862ccfa90375bc", func := "loop.example/toricfans/laws.FnExactDivisorTimes", spec := "fnExactDivisorTimes", inPlace := ["internal/reflectlite.ValueOf", "(internal/reflectlite.Value).Type", "(internal/reflectlite.Value).IsNil", "internal/reflectlite.TypeOf", "(internal/reflectlite.Value).Elem", "(internal/reflectlite.Value).Set"], unfollowed := true, recurses := true, named := ["errors.errorType"], apart := false, laid := [("errors.errorType", laid_errors_errorType)], narrowed := true }
def FnExactDivisorTimesUptoSaid : Prop := fnExactDivisorTimesUptoRow.holds Tryd.pinned (OpenSpec.upto fnExactDivisorTimesSpec)

/-- 'laws.FnExactDivisorProduct', WHERE WHAT IT READS IS OF BULK AT MOST 1048576: true; the input reads as it did. -/
def fnExactDivisorProductUptoRow : OpenClaim := { program := "ytcieihbknfeddabdoor", sum := "1cb5462580a19ec9e67d8f41f3feea115822e38db294165e8e862ccfa90375bc", func := "loop.example/toricfans/laws.FnExactDivisorProduct", spec := "fnExactDivisorProduct", inPlace := ["internal/reflectlite.ValueOf", "(internal/reflectlite.Value).Type", "(internal/reflectlite.Value).IsNil", "internal/reflectlite.TypeOf", "(internal/reflectlite.Value).Elem", "(internal/reflectlite.Value).Set"], unfollowed := true, recurses := true, named := ["errors.errorType"], apart := false, laid := [("errors.errorType", laid_errors_errorType)], narrowed := true }
def FnExactDivisorProductUptoSaid : Prop := fnExactDivisorProductUptoRow.holds Tryd.pinned (OpenSpec.upto fnExactDivisorProductSpec)

/-- 'laws.FnExactDivisorDegrees', WHERE WHAT IT READS IS OF BULK AT MOST 1048576: true; the input reads as it did. -/
def fnExactDivisorDegreesUptoRow : OpenClaim := { program := "ytcieihbknfeddabdoor", sum := "1cb5462580a19ec9e67d8f41f3feea115822e38db294165e8e862ccfa90375bc", func := "loop.example/toricfans/laws.FnExactDivisorDegrees", spec := "fnExactDivisorDegrees", inPlace := ["internal/reflectlite.ValueOf", "(internal/reflectlite.Value).Type", "(internal/reflectlite.Value).IsNil", "internal/reflectlite.TypeOf", "(internal/reflectlite.Value).Elem", "(internal/reflectlite.Value).Set"], unfollowed := true, recurses := true, named := ["errors.errorType"], apart := false, laid := [("errors.errorType", laid_errors_errorType)], narrowed := true }
def FnExactDivisorDegreesUptoSaid : Prop := fnExactDivisorDegreesUptoRow.holds Tryd.pinned (OpenSpec.upto fnExactDivisorDegreesSpec)

/-- 'laws.FnExactDivisorNef', WHERE WHAT IT READS IS OF BULK AT MOST 1048576: true; the input reads as it did. -/
def fnExactDivisorNefUptoRow : OpenClaim := { program := "ytcieihbknfeddabdoor", sum := "1cb5462580a19ec9e67d8f41f3feea115822e38db294165e8e862ccfa90375bc", func := "loop.example/toricfans/laws.FnExactDivisorNef", spec := "fnExactDivisorNef", inPlace := ["internal/reflectlite.ValueOf", "(internal/reflectlite.Value).Type", "(internal/reflectlite.Value).IsNil", "internal/reflectlite.TypeOf", "(internal/reflectlite.Value).Elem", "(internal/reflectlite.Value).Set"], unfollowed := true, recurses := true, named := ["errors.errorType"], apart := false, laid := [("errors.errorType", laid_errors_errorType)], narrowed := true }
def FnExactDivisorNefUptoSaid : Prop := fnExactDivisorNefUptoRow.holds Tryd.pinned (OpenSpec.upto fnExactDivisorNefSpec)

/-- 'laws.FnExactDivisorAmple', WHERE WHAT IT READS IS OF BULK AT MOST 1048576: true; the input reads as it did. -/
def fnExactDivisorAmpleUptoRow : OpenClaim := { program := "ytcieihbknfeddabdoor", sum := "1cb5462580a19ec9e67d8f41f3feea115822e38db294165e8e862ccfa90375bc", func := "loop.example/toricfans/laws.FnExactDivisorAmple", spec := "fnExactDivisorAmple", inPlace := ["internal/reflectlite.ValueOf", "(internal/reflectlite.Value).Type", "(internal/reflectlite.Value).IsNil", "internal/reflectlite.TypeOf", "(internal/reflectlite.Value).Elem", "(internal/reflectlite.Value).Set"], unfollowed := true, recurses := true, named := ["errors.errorType"], apart := false, laid := [("errors.errorType", laid_errors_errorType)], narrowed := true }
def FnExactDivisorAmpleUptoSaid : Prop := fnExactDivisorAmpleUptoRow.holds Tryd.pinned (OpenSpec.upto fnExactDivisorAmpleSpec)

/-- 'laws.FnExactDivisorEquivalent', WHERE WHAT IT READS IS OF BULK AT MOST 1048576: true; the input reads as it did. -/
def fnExactDivisorEquivalentUptoRow : OpenClaim := { program := "ytcieihbknfeddabdoor", sum := "1cb5462580a19ec9e67d8f41f3feea115822e38db294165e8e862ccfa90375bc", func := "loop.example/toricfans/laws.FnExactDivisorEquivalent", spec := "fnExactDivisorEquivalent", inPlace := ["internal/reflectlite.ValueOf", "(internal/reflectlite.Value).Type", "(internal/reflectlite.Value).IsNil", "internal/reflectlite.TypeOf", "(internal/reflectlite.Value).Elem", "(internal/reflectlite.Value).Set"], unfollowed := true, recurses := true, named := ["errors.errorType"], apart := false, laid := [("errors.errorType", laid_errors_errorType)], narrowed := true }
def FnExactDivisorEquivalentUptoSaid : Prop := fnExactDivisorEquivalentUptoRow.holds Tryd.pinned (OpenSpec.upto fnExactDivisorEquivalentSpec)

/-- 'laws.FnExactDivisorCanonical', WHERE WHAT IT READS IS OF BULK AT MOST 1048576: true; the input reads as it did. -/
def fnExactDivisorCanonicalUptoRow : OpenClaim := { program := "ytcieihbknfeddabdoor", sum := "1cb5462580a19ec9e67d8f41f3feea115822e38db294165e8e862ccfa90375bc", func := "loop.example/toricfans/laws.FnExactDivisorCanonical", spec := "fnExactDivisorCanonical", inPlace := ["internal/reflectlite.ValueOf", "(internal/reflectlite.Value).Type", "(internal/reflectlite.Value).IsNil", "internal/reflectlite.TypeOf", "(internal/reflectlite.Value).Elem", "(internal/reflectlite.Value).Set"], unfollowed := true, recurses := true, named := ["errors.errorType"], apart := false, laid := [("errors.errorType", laid_errors_errorType)], narrowed := true }
def FnExactDivisorCanonicalUptoSaid : Prop := fnExactDivisorCanonicalUptoRow.holds Tryd.pinned (OpenSpec.upto fnExactDivisorCanonicalSpec)

/-- 'laws.FnExactDivisorEuler', WHERE WHAT IT READS IS OF BULK AT MOST 1048576: true; the input reads as it did. -/
def fnExactDivisorEulerUptoRow : OpenClaim := { program := "ytcieihbknfeddabdoor", sum := "1cb5462580a19ec9e67d8f41f3feea115822e38db294165e8e862ccfa90375bc", func := "loop.example/toricfans/laws.FnExactDivisorEuler", spec := "fnExactDivisorEuler", inPlace := ["internal/reflectlite.ValueOf", "(internal/reflectlite.Value).Type", "(internal/reflectlite.Value).IsNil", "internal/reflectlite.TypeOf", "(internal/reflectlite.Value).Elem", "(internal/reflectlite.Value).Set"], unfollowed := true, recurses := true, named := ["errors.errorType"], apart := false, laid := [("errors.errorType", laid_errors_errorType)], narrowed := true }
def FnExactDivisorEulerUptoSaid : Prop := fnExactDivisorEulerUptoRow.holds Tryd.pinned (OpenSpec.upto fnExactDivisorEulerSpec)

/-- 'laws.FnExactDivisorGenus', WHERE WHAT IT READS IS OF BULK AT MOST 1048576: true; the input reads as it did. -/
def fnExactDivisorGenusUptoRow : OpenClaim := { program := "ytcieihbknfeddabdoor", sum := "1cb5462580a19ec9e67d8f41f3feea115822e38db294165e8e862ccfa90375bc", func := "loop.example/toricfans/laws.FnExactDivisorGenus", spec := "fnExactDivisorGenus", inPlace := ["internal/reflectlite.ValueOf", "(internal/reflectlite.Value).Type", "(internal/reflectlite.Value).IsNil", "internal/reflectlite.TypeOf", "(internal/reflectlite.Value).Elem", "(internal/reflectlite.Value).Set"], unfollowed := true, recurses := true, named := ["errors.errorType"], apart := false, laid := [("errors.errorType", laid_errors_errorType)], narrowed := true }
def FnExactDivisorGenusUptoSaid : Prop := fnExactDivisorGenusUptoRow.holds Tryd.pinned (OpenSpec.upto fnExactDivisorGenusSpec)

/-- 'laws.FnExactSectionBox', WHERE WHAT IT READS IS OF BULK AT MOST 1048576: true; the input reads as it did. -/
def fnExactSectionBoxUptoRow : OpenClaim := { program := "ytcieihbknfeddabdoor", sum := "1cb5462580a19ec9e67d8f41f3feea115822e38db294165e8e862ccfa90375bc", func := "loop.example/toricfans/laws.FnExactSectionBox", spec := "fnExactSectionBox", inPlace := ["internal/reflectlite.ValueOf", "(internal/reflectlite.Value).Type", "(internal/reflectlite.Value).IsNil", "internal/reflectlite.TypeOf", "(internal/reflectlite.Value).Elem", "(internal/reflectlite.Value).Set"], unfollowed := true, recurses := true, named := ["errors.errorType"], apart := false, laid := [("errors.errorType", laid_errors_errorType)], narrowed := true }
def FnExactSectionBoxUptoSaid : Prop := fnExactSectionBoxUptoRow.holds Tryd.pinned (OpenSpec.upto fnExactSectionBoxSpec)

/-- 'laws.FnExactSectionHas', WHERE WHAT IT READS IS OF BULK AT MOST 1048576: true; the input reads as it did. -/
def fnExactSectionHasUptoRow : OpenClaim := { program := "ytcieihbknfeddabdoor", sum := "1cb5462580a19ec9e67d8f41f3feea115822e38db294165e8e862ccfa90375bc", func := "loop.example/toricfans/laws.FnExactSectionHas", spec := "fnExactSectionHas", inPlace := ["internal/reflectlite.ValueOf", "(internal/reflectlite.Value).Type", "(internal/reflectlite.Value).IsNil", "internal/reflectlite.TypeOf", "(internal/reflectlite.Value).Elem", "(internal/reflectlite.Value).Set"], unfollowed := true, recurses := true, named := ["errors.errorType"], apart := false, laid := [("errors.errorType", laid_errors_errorType)], narrowed := true }
def FnExactSectionHasUptoSaid : Prop := fnExactSectionHasUptoRow.holds Tryd.pinned (OpenSpec.upto fnExactSectionHasSpec)

end Rows
end Go.Proofs.YtcieihbknfeddabDoor
