/-
  NARROWER THAN 'FOR EVERY INPUT', by the rows' own cells (each row's printed sentence says how): FnExactSectionBox: laid · FnExactSectionHas: laid · FnExactDivisorPlain: laid · FnExactDivisorEquivalent: laid · FnDegrees: laid.
  DERIVED. THE GIVEN ROWS OF THIS SEAT. 5 by the template 'for every input the law returns true; each argument reads behind the call as it read before'; 0 by the template 'total and deterministic' (their statements: YtmencjdlfeojkaaDoorTotals.lean).
  GIVEN WITH THE SEED: the statements are not yours to turn. If you find one false, say at which input.
  Laid BY PROGRAM, IN A SANDBOX (cutbox-rows.mjs): the forced cells as the released guide's own fill.sh prints them over the translation dee378c037c4fc1a… (all of the seat's roots in one cut). By AI agents, Wed Nov 11 2026. No macro, syntax, notation, axiom, sorry.
-/
import Derived.Test.YtmencjdlfeojkaaDoorChecked
import GoSem.Claim
import GoSem.ClaimJoined
import GoSem.ClaimMapViews
import Derived.JoinedTies
import Derived.KernelRfl
namespace Go.Proofs.YtmencjdlfeojkaaDoor
/- THE CELL 'sum', in the pinned program and in every row, IS THE sha256 OF THE DUMP (.gsa) THAT YtmencjdlfeojkaaDoorProg.lean LOADS. Nothing in Lean hashes anything: it is a label: what it is worth is what the hold of that sum in a sandbox is worth. -/
noncomputable def Tryd.pinned : Pinned := { name := "ytmencjdlfeojkaadoor", sum := "dee378c037c4fc1abb0f9d6e1d6b35850b78b50a54e9f3f9c4a6517d2d925820", checked := Tryd.checked }
namespace Rows
def none {H : Type} : Left H := { results := [], args := [] }

/- WHAT THE LISTED PACKAGE-LEVEL VARIABLES READ AS WHEN THE CALL BEGINS. Each datum BY PROGRAM (the guide's laid-datum.mjs) off the statement by which the dump's own 'gosem.cut.vars' lays the variable. In a bare row this is a premise. The card (YtmencjdlfeojkaaDoorCards.lean) ties it to the program's text. -/
def laid_errors_errorType {H : Type} : DataW H := .iface "internal/reflectlite.rtype" (.agg [.ptr (.lit (.string [101, 114, 114, 111, 114]))])

/-- 'laws.FnExactSectionBox': WHATEVER THE INPUT: true; the input reads as it did. -/
def fnExactSectionBoxSpec : ChangeSpec := { name := "fnExactSectionBox", fn := fun _ => fun
  | [d1, d2] => { results := [.lit (.bool true)], args := [d1, d2] }
  | _ => none }
def fnExactSectionBoxRow : OpenClaim := { program := "ytmencjdlfeojkaadoor", sum := "dee378c037c4fc1abb0f9d6e1d6b35850b78b50a54e9f3f9c4a6517d2d925820", func := "loop.example/toricfans/laws.FnExactSectionBox", spec := "fnExactSectionBox", inPlace := ["internal/reflectlite.ValueOf", "(internal/reflectlite.Value).Type", "(internal/reflectlite.Value).IsNil", "internal/reflectlite.TypeOf", "(internal/reflectlite.Value).Elem", "(internal/reflectlite.Value).Set"], unfollowed := true, recurses := true, named := ["errors.errorType"], apart := false, laid := [("errors.errorType", laid_errors_errorType)] }
def FnExactSectionBoxSaid : Prop := fnExactSectionBoxRow.holds Tryd.pinned (OpenSpec.ofChange fnExactSectionBoxSpec)

/-- ITS FALSE NEIGHBOUR: 'it returns false'. Refute it at one input. -/
def fnExactSectionBoxWrong : ChangeSpec := { name := "fnExactSectionBox", fn := fun _ => fun
  | [d1, d2] => { results := [.lit (.bool false)], args := [d1, d2] }
  | _ => none }
def FnExactSectionBoxWrongFalsely : Prop := fnExactSectionBoxRow.holds Tryd.pinned (OpenSpec.ofChange fnExactSectionBoxWrong)

/-- 'laws.FnExactSectionHas': WHATEVER THE INPUT: true; the input reads as it did. -/
def fnExactSectionHasSpec : ChangeSpec := { name := "fnExactSectionHas", fn := fun _ => fun
  | [d1, d2, d3] => { results := [.lit (.bool true)], args := [d1, d2, d3] }
  | _ => none }
def fnExactSectionHasRow : OpenClaim := { program := "ytmencjdlfeojkaadoor", sum := "dee378c037c4fc1abb0f9d6e1d6b35850b78b50a54e9f3f9c4a6517d2d925820", func := "loop.example/toricfans/laws.FnExactSectionHas", spec := "fnExactSectionHas", inPlace := ["internal/reflectlite.ValueOf", "(internal/reflectlite.Value).Type", "(internal/reflectlite.Value).IsNil", "internal/reflectlite.TypeOf", "(internal/reflectlite.Value).Elem", "(internal/reflectlite.Value).Set"], unfollowed := true, recurses := true, named := ["errors.errorType"], apart := false, laid := [("errors.errorType", laid_errors_errorType)] }
def FnExactSectionHasSaid : Prop := fnExactSectionHasRow.holds Tryd.pinned (OpenSpec.ofChange fnExactSectionHasSpec)

/-- ITS FALSE NEIGHBOUR: 'it returns false'. Refute it at one input. -/
def fnExactSectionHasWrong : ChangeSpec := { name := "fnExactSectionHas", fn := fun _ => fun
  | [d1, d2, d3] => { results := [.lit (.bool false)], args := [d1, d2, d3] }
  | _ => none }
def FnExactSectionHasWrongFalsely : Prop := fnExactSectionHasRow.holds Tryd.pinned (OpenSpec.ofChange fnExactSectionHasWrong)

/-- 'laws.FnExactDivisorPlain': WHATEVER THE INPUT: true; the input reads as it did. -/
def fnExactDivisorPlainSpec : ChangeSpec := { name := "fnExactDivisorPlain", fn := fun _ => fun
  | [d1, d2] => { results := [.lit (.bool true)], args := [d1, d2] }
  | _ => none }
def fnExactDivisorPlainRow : OpenClaim := { program := "ytmencjdlfeojkaadoor", sum := "dee378c037c4fc1abb0f9d6e1d6b35850b78b50a54e9f3f9c4a6517d2d925820", func := "loop.example/toricfans/laws.FnExactDivisorPlain", spec := "fnExactDivisorPlain", inPlace := ["internal/reflectlite.ValueOf", "(internal/reflectlite.Value).Type", "(internal/reflectlite.Value).IsNil", "internal/reflectlite.TypeOf", "(internal/reflectlite.Value).Elem", "(internal/reflectlite.Value).Set"], unfollowed := true, recurses := true, named := ["errors.errorType"], apart := false, laid := [("errors.errorType", laid_errors_errorType)] }
def FnExactDivisorPlainSaid : Prop := fnExactDivisorPlainRow.holds Tryd.pinned (OpenSpec.ofChange fnExactDivisorPlainSpec)

/-- ITS FALSE NEIGHBOUR: 'it returns false'. Refute it at one input. -/
def fnExactDivisorPlainWrong : ChangeSpec := { name := "fnExactDivisorPlain", fn := fun _ => fun
  | [d1, d2] => { results := [.lit (.bool false)], args := [d1, d2] }
  | _ => none }
def FnExactDivisorPlainWrongFalsely : Prop := fnExactDivisorPlainRow.holds Tryd.pinned (OpenSpec.ofChange fnExactDivisorPlainWrong)

/-- 'laws.FnExactDivisorEquivalent': WHATEVER THE INPUT: true; the input reads as it did. -/
def fnExactDivisorEquivalentSpec : ChangeSpec := { name := "fnExactDivisorEquivalent", fn := fun _ => fun
  | [d1, d2, d3] => { results := [.lit (.bool true)], args := [d1, d2, d3] }
  | _ => none }
def fnExactDivisorEquivalentRow : OpenClaim := { program := "ytmencjdlfeojkaadoor", sum := "dee378c037c4fc1abb0f9d6e1d6b35850b78b50a54e9f3f9c4a6517d2d925820", func := "loop.example/toricfans/laws.FnExactDivisorEquivalent", spec := "fnExactDivisorEquivalent", inPlace := ["internal/reflectlite.ValueOf", "(internal/reflectlite.Value).Type", "(internal/reflectlite.Value).IsNil", "internal/reflectlite.TypeOf", "(internal/reflectlite.Value).Elem", "(internal/reflectlite.Value).Set"], unfollowed := true, recurses := true, named := ["errors.errorType"], apart := false, laid := [("errors.errorType", laid_errors_errorType)] }
def FnExactDivisorEquivalentSaid : Prop := fnExactDivisorEquivalentRow.holds Tryd.pinned (OpenSpec.ofChange fnExactDivisorEquivalentSpec)

/-- ITS FALSE NEIGHBOUR: 'it returns false'. Refute it at one input. -/
def fnExactDivisorEquivalentWrong : ChangeSpec := { name := "fnExactDivisorEquivalent", fn := fun _ => fun
  | [d1, d2, d3] => { results := [.lit (.bool false)], args := [d1, d2, d3] }
  | _ => none }
def FnExactDivisorEquivalentWrongFalsely : Prop := fnExactDivisorEquivalentRow.holds Tryd.pinned (OpenSpec.ofChange fnExactDivisorEquivalentWrong)

/-- 'laws.FnDegrees': WHATEVER THE INPUT: true; the input reads as it did. -/
def fnDegreesSpec : ChangeSpec := { name := "fnDegrees", fn := fun _ => fun
  | [d] => { results := [.lit (.bool true)], args := [d] }
  | _ => none }
def fnDegreesRow : OpenClaim := { program := "ytmencjdlfeojkaadoor", sum := "dee378c037c4fc1abb0f9d6e1d6b35850b78b50a54e9f3f9c4a6517d2d925820", func := "loop.example/toricfans/laws.FnDegrees", spec := "fnDegrees", inPlace := ["internal/reflectlite.ValueOf", "(internal/reflectlite.Value).Type", "(internal/reflectlite.Value).IsNil", "internal/reflectlite.TypeOf", "(internal/reflectlite.Value).Elem", "(internal/reflectlite.Value).Set"], unfollowed := true, recurses := true, named := ["errors.errorType"], apart := false, laid := [("errors.errorType", laid_errors_errorType)] }
def FnDegreesSaid : Prop := fnDegreesRow.holds Tryd.pinned (OpenSpec.ofChange fnDegreesSpec)

/-- ITS FALSE NEIGHBOUR: 'it returns false'. Refute it at one input. -/
def fnDegreesWrong : ChangeSpec := { name := "fnDegrees", fn := fun _ => fun
  | [d] => { results := [.lit (.bool false)], args := [d] }
  | _ => none }
def FnDegreesWrongFalsely : Prop := fnDegreesRow.holds Tryd.pinned (OpenSpec.ofChange fnDegreesWrong)

/- THE SECOND FORM. 'bulk': how many values and letters a reading holds, each counted each time it is reached (what is shared counts as often as it is met; a slice's spare places count too). A statement '..UptoSaid' is the law's where the arguments, and the package variables that the reading takes, are together of bulk at most 1048576: NARROWER than '..Said'. Prove '..Said' where nothing that the law and all that it calls make is longer than what came in: it says more and counts as full. Else prove '..UptoSaid'. A law counts once. -/
mutual
def uptoBulk {H : Type} : DataW H → Nat
  | .lit (.string bytes) => bytes.length + 1
  | .lit _ => 1
  | .nil => 1
  | .ptr d => uptoBulk d + 1
  | .slice elems spare => uptoBulkAll elems + uptoBulkAll spare + 1
  | .agg parts => uptoBulkAll parts + 1
  | .iface _ d => uptoBulk d + 1
  | .map entries => uptoBulkEntries entries + 1
  | .held _ => 1
def uptoBulkAll {H : Type} : List (DataW H) → Nat
  | [] => 0
  | d :: r => uptoBulk d + uptoBulkAll r
def uptoBulkEntries {H : Type} : List (Lit × DataW H) → Nat
  | [] => 0
  | x :: r => uptoBulkEntry x + uptoBulkEntries r
def uptoBulkEntry {H : Type} : Lit × DataW H → Nat
  | (.string bytes, d) => bytes.length + uptoBulk d + 1
  | (_, d) => uptoBulk d + 1
 end
def uptoSmall : (H : Type) → List (DataW H) → Bool := fun _ ds => decide (uptoBulkAll ds ≤ 1048576)
def OpenSpec.upto (s : _root_.Go.ChangeSpec) : _root_.Go.OpenSpec := { _root_.Go.OpenSpec.ofChange s with cond := some uptoSmall }

/-- 'laws.FnExactSectionBox', WHERE WHAT IT READS IS OF BULK AT MOST 1048576: true; the input reads as it did. -/
def fnExactSectionBoxUptoRow : OpenClaim := { program := "ytmencjdlfeojkaadoor", sum := "dee378c037c4fc1abb0f9d6e1d6b35850b78b50a54e9f3f9c4a6517d2d925820", func := "loop.example/toricfans/laws.FnExactSectionBox", spec := "fnExactSectionBox", inPlace := ["internal/reflectlite.ValueOf", "(internal/reflectlite.Value).Type", "(internal/reflectlite.Value).IsNil", "internal/reflectlite.TypeOf", "(internal/reflectlite.Value).Elem", "(internal/reflectlite.Value).Set"], unfollowed := true, recurses := true, named := ["errors.errorType"], apart := false, laid := [("errors.errorType", laid_errors_errorType)], narrowed := true }
def FnExactSectionBoxUptoSaid : Prop := fnExactSectionBoxUptoRow.holds Tryd.pinned (OpenSpec.upto fnExactSectionBoxSpec)

/-- 'laws.FnExactSectionHas', WHERE WHAT IT READS IS OF BULK AT MOST 1048576: true; the input reads as it did. -/
def fnExactSectionHasUptoRow : OpenClaim := { program := "ytmencjdlfeojkaadoor", sum := "dee378c037c4fc1abb0f9d6e1d6b35850b78b50a54e9f3f9c4a6517d2d925820", func := "loop.example/toricfans/laws.FnExactSectionHas", spec := "fnExactSectionHas", inPlace := ["internal/reflectlite.ValueOf", "(internal/reflectlite.Value).Type", "(internal/reflectlite.Value).IsNil", "internal/reflectlite.TypeOf", "(internal/reflectlite.Value).Elem", "(internal/reflectlite.Value).Set"], unfollowed := true, recurses := true, named := ["errors.errorType"], apart := false, laid := [("errors.errorType", laid_errors_errorType)], narrowed := true }
def FnExactSectionHasUptoSaid : Prop := fnExactSectionHasUptoRow.holds Tryd.pinned (OpenSpec.upto fnExactSectionHasSpec)

/-- 'laws.FnExactDivisorPlain', WHERE WHAT IT READS IS OF BULK AT MOST 1048576: true; the input reads as it did. -/
def fnExactDivisorPlainUptoRow : OpenClaim := { program := "ytmencjdlfeojkaadoor", sum := "dee378c037c4fc1abb0f9d6e1d6b35850b78b50a54e9f3f9c4a6517d2d925820", func := "loop.example/toricfans/laws.FnExactDivisorPlain", spec := "fnExactDivisorPlain", inPlace := ["internal/reflectlite.ValueOf", "(internal/reflectlite.Value).Type", "(internal/reflectlite.Value).IsNil", "internal/reflectlite.TypeOf", "(internal/reflectlite.Value).Elem", "(internal/reflectlite.Value).Set"], unfollowed := true, recurses := true, named := ["errors.errorType"], apart := false, laid := [("errors.errorType", laid_errors_errorType)], narrowed := true }
def FnExactDivisorPlainUptoSaid : Prop := fnExactDivisorPlainUptoRow.holds Tryd.pinned (OpenSpec.upto fnExactDivisorPlainSpec)

/-- 'laws.FnExactDivisorEquivalent', WHERE WHAT IT READS IS OF BULK AT MOST 1048576: true; the input reads as it did. -/
def fnExactDivisorEquivalentUptoRow : OpenClaim := { program := "ytmencjdlfeojkaadoor", sum := "dee378c037c4fc1abb0f9d6e1d6b35850b78b50a54e9f3f9c4a6517d2d925820", func := "loop.example/toricfans/laws.FnExactDivisorEquivalent", spec := "fnExactDivisorEquivalent", inPlace := ["internal/reflectlite.ValueOf", "(internal/reflectlite.Value).Type", "(internal/reflectlite.Value).IsNil", "internal/reflectlite.TypeOf", "(internal/reflectlite.Value).Elem", "(internal/reflectlite.Value).Set"], unfollowed := true, recurses := true, named := ["errors.errorType"], apart := false, laid := [("errors.errorType", laid_errors_errorType)], narrowed := true }
def FnExactDivisorEquivalentUptoSaid : Prop := fnExactDivisorEquivalentUptoRow.holds Tryd.pinned (OpenSpec.upto fnExactDivisorEquivalentSpec)

/-- 'laws.FnDegrees', WHERE WHAT IT READS IS OF BULK AT MOST 1048576: true; the input reads as it did. -/
def fnDegreesUptoRow : OpenClaim := { program := "ytmencjdlfeojkaadoor", sum := "dee378c037c4fc1abb0f9d6e1d6b35850b78b50a54e9f3f9c4a6517d2d925820", func := "loop.example/toricfans/laws.FnDegrees", spec := "fnDegrees", inPlace := ["internal/reflectlite.ValueOf", "(internal/reflectlite.Value).Type", "(internal/reflectlite.Value).IsNil", "internal/reflectlite.TypeOf", "(internal/reflectlite.Value).Elem", "(internal/reflectlite.Value).Set"], unfollowed := true, recurses := true, named := ["errors.errorType"], apart := false, laid := [("errors.errorType", laid_errors_errorType)], narrowed := true }
def FnDegreesUptoSaid : Prop := fnDegreesUptoRow.holds Tryd.pinned (OpenSpec.upto fnDegreesSpec)

end Rows
end Go.Proofs.YtmencjdlfeojkaaDoor
