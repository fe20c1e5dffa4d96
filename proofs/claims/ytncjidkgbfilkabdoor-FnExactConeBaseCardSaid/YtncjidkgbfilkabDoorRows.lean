/-
  NARROWER THAN 'FOR EVERY INPUT', by the rows' own cells (each row's printed sentence says how): FnExactConeBase: laid · FnExactFractionValue: laid · FnExactFractionOther: laid · FnFraction: laid · FnValue: laid · FnOther: laid · FnMatTurned: laid.
  DERIVED. THE GIVEN ROWS OF THIS SEAT. 7 by the template 'for every input the law returns true; each argument reads behind the call as it read before'; 0 by the template 'total and deterministic' (their statements: YtncjidkgbfilkabDoorTotals.lean).
  GIVEN WITH THE SEED: the statements are not yours to turn. If you find one false, say at which input.
  Laid BY PROGRAM, IN A SANDBOX (cutbox-rows.mjs): the forced cells as the released guide's own fill.sh prints them over the translation 7f01767610c71544… (all of the seat's roots in one cut). By AI agents, Wed Nov 11 2026. No macro, syntax, notation, axiom, sorry.
-/
import Derived.Test.YtncjidkgbfilkabDoorChecked
import GoSem.Claim
import GoSem.ClaimJoined
import GoSem.ClaimMapViews
import Derived.JoinedTies
import Derived.KernelRfl
namespace Go.Proofs.YtncjidkgbfilkabDoor
/- THE CELL 'sum', in the pinned program and in every row, IS THE sha256 OF THE DUMP (.gsa) THAT YtncjidkgbfilkabDoorProg.lean LOADS. Nothing in Lean hashes anything: it is a label: what it is worth is what the hold of that sum in a sandbox is worth. -/
noncomputable def Tryd.pinned : Pinned := { name := "ytncjidkgbfilkabdoor", sum := "7f01767610c715442f4c186da693ff87d2fb243ab7fb75d8a7e2a3fe7633bd7b", checked := Tryd.checked }
namespace Rows
def none {H : Type} : Left H := { results := [], args := [] }

/- WHAT THE LISTED PACKAGE-LEVEL VARIABLES READ AS WHEN THE CALL BEGINS. Each datum BY PROGRAM (the guide's laid-datum.mjs) off the statement by which the dump's own 'gosem.cut.vars' lays the variable. In a bare row this is a premise. The card (YtncjidkgbfilkabDoorCards.lean) ties it to the program's text. -/
def laid_errors_errorType {H : Type} : DataW H := .iface "internal/reflectlite.rtype" (.agg [.ptr (.lit (.string [101, 114, 114, 111, 114]))])

/-- 'laws.FnExactConeBase': WHATEVER THE INPUT: true; the input reads as it did. -/
def fnExactConeBaseSpec : ChangeSpec := { name := "fnExactConeBase", fn := fun _ => fun
  | [d] => { results := [.lit (.bool true)], args := [d] }
  | _ => none }
def fnExactConeBaseRow : OpenClaim := { program := "ytncjidkgbfilkabdoor", sum := "7f01767610c715442f4c186da693ff87d2fb243ab7fb75d8a7e2a3fe7633bd7b", func := "loop.example/toricfans/laws.FnExactConeBase", spec := "fnExactConeBase", inPlace := ["internal/reflectlite.ValueOf", "(internal/reflectlite.Value).Type", "(internal/reflectlite.Value).IsNil", "internal/reflectlite.TypeOf", "(internal/reflectlite.Value).Elem", "(internal/reflectlite.Value).Set"], unfollowed := true, recurses := true, named := ["errors.errorType"], apart := false, laid := [("errors.errorType", laid_errors_errorType)] }
def FnExactConeBaseSaid : Prop := fnExactConeBaseRow.holds Tryd.pinned (OpenSpec.ofChange fnExactConeBaseSpec)

/-- ITS FALSE NEIGHBOUR: 'it returns false'. Refute it at one input. -/
def fnExactConeBaseWrong : ChangeSpec := { name := "fnExactConeBase", fn := fun _ => fun
  | [d] => { results := [.lit (.bool false)], args := [d] }
  | _ => none }
def FnExactConeBaseWrongFalsely : Prop := fnExactConeBaseRow.holds Tryd.pinned (OpenSpec.ofChange fnExactConeBaseWrong)

/-- 'laws.FnExactFractionValue': WHATEVER THE INPUT: true; the input reads as it did. -/
def fnExactFractionValueSpec : ChangeSpec := { name := "fnExactFractionValue", fn := fun _ => fun
  | [d] => { results := [.lit (.bool true)], args := [d] }
  | _ => none }
def fnExactFractionValueRow : OpenClaim := { program := "ytncjidkgbfilkabdoor", sum := "7f01767610c715442f4c186da693ff87d2fb243ab7fb75d8a7e2a3fe7633bd7b", func := "loop.example/toricfans/laws.FnExactFractionValue", spec := "fnExactFractionValue", inPlace := ["internal/reflectlite.ValueOf", "(internal/reflectlite.Value).Type", "(internal/reflectlite.Value).IsNil", "internal/reflectlite.TypeOf", "(internal/reflectlite.Value).Elem", "(internal/reflectlite.Value).Set"], unfollowed := true, recurses := true, named := ["errors.errorType"], apart := false, laid := [("errors.errorType", laid_errors_errorType)] }
def FnExactFractionValueSaid : Prop := fnExactFractionValueRow.holds Tryd.pinned (OpenSpec.ofChange fnExactFractionValueSpec)

/-- ITS FALSE NEIGHBOUR: 'it returns false'. Refute it at one input. -/
def fnExactFractionValueWrong : ChangeSpec := { name := "fnExactFractionValue", fn := fun _ => fun
  | [d] => { results := [.lit (.bool false)], args := [d] }
  | _ => none }
def FnExactFractionValueWrongFalsely : Prop := fnExactFractionValueRow.holds Tryd.pinned (OpenSpec.ofChange fnExactFractionValueWrong)

/-- 'laws.FnExactFractionOther': WHATEVER THE INPUT: true; the input reads as it did. -/
def fnExactFractionOtherSpec : ChangeSpec := { name := "fnExactFractionOther", fn := fun _ => fun
  | [d] => { results := [.lit (.bool true)], args := [d] }
  | _ => none }
def fnExactFractionOtherRow : OpenClaim := { program := "ytncjidkgbfilkabdoor", sum := "7f01767610c715442f4c186da693ff87d2fb243ab7fb75d8a7e2a3fe7633bd7b", func := "loop.example/toricfans/laws.FnExactFractionOther", spec := "fnExactFractionOther", inPlace := ["internal/reflectlite.ValueOf", "(internal/reflectlite.Value).Type", "(internal/reflectlite.Value).IsNil", "internal/reflectlite.TypeOf", "(internal/reflectlite.Value).Elem", "(internal/reflectlite.Value).Set"], unfollowed := true, recurses := true, named := ["errors.errorType"], apart := false, laid := [("errors.errorType", laid_errors_errorType)] }
def FnExactFractionOtherSaid : Prop := fnExactFractionOtherRow.holds Tryd.pinned (OpenSpec.ofChange fnExactFractionOtherSpec)

/-- ITS FALSE NEIGHBOUR: 'it returns false'. Refute it at one input. -/
def fnExactFractionOtherWrong : ChangeSpec := { name := "fnExactFractionOther", fn := fun _ => fun
  | [d] => { results := [.lit (.bool false)], args := [d] }
  | _ => none }
def FnExactFractionOtherWrongFalsely : Prop := fnExactFractionOtherRow.holds Tryd.pinned (OpenSpec.ofChange fnExactFractionOtherWrong)

/-- 'laws.FnFraction': WHATEVER THE INPUT: true; the input reads as it did. -/
def fnFractionSpec : ChangeSpec := { name := "fnFraction", fn := fun _ => fun
  | [d] => { results := [.lit (.bool true)], args := [d] }
  | _ => none }
def fnFractionRow : OpenClaim := { program := "ytncjidkgbfilkabdoor", sum := "7f01767610c715442f4c186da693ff87d2fb243ab7fb75d8a7e2a3fe7633bd7b", func := "loop.example/toricfans/laws.FnFraction", spec := "fnFraction", inPlace := ["internal/reflectlite.ValueOf", "(internal/reflectlite.Value).Type", "(internal/reflectlite.Value).IsNil", "internal/reflectlite.TypeOf", "(internal/reflectlite.Value).Elem", "(internal/reflectlite.Value).Set"], unfollowed := true, recurses := true, named := ["errors.errorType"], apart := false, laid := [("errors.errorType", laid_errors_errorType)] }
def FnFractionSaid : Prop := fnFractionRow.holds Tryd.pinned (OpenSpec.ofChange fnFractionSpec)

/-- ITS FALSE NEIGHBOUR: 'it returns false'. Refute it at one input. -/
def fnFractionWrong : ChangeSpec := { name := "fnFraction", fn := fun _ => fun
  | [d] => { results := [.lit (.bool false)], args := [d] }
  | _ => none }
def FnFractionWrongFalsely : Prop := fnFractionRow.holds Tryd.pinned (OpenSpec.ofChange fnFractionWrong)

/-- 'laws.FnValue': WHATEVER THE INPUT: true; the input reads as it did. -/
def fnValueSpec : ChangeSpec := { name := "fnValue", fn := fun _ => fun
  | [d] => { results := [.lit (.bool true)], args := [d] }
  | _ => none }
def fnValueRow : OpenClaim := { program := "ytncjidkgbfilkabdoor", sum := "7f01767610c715442f4c186da693ff87d2fb243ab7fb75d8a7e2a3fe7633bd7b", func := "loop.example/toricfans/laws.FnValue", spec := "fnValue", inPlace := ["internal/reflectlite.ValueOf", "(internal/reflectlite.Value).Type", "(internal/reflectlite.Value).IsNil", "internal/reflectlite.TypeOf", "(internal/reflectlite.Value).Elem", "(internal/reflectlite.Value).Set"], unfollowed := true, recurses := true, named := ["errors.errorType"], apart := false, laid := [("errors.errorType", laid_errors_errorType)] }
def FnValueSaid : Prop := fnValueRow.holds Tryd.pinned (OpenSpec.ofChange fnValueSpec)

/-- ITS FALSE NEIGHBOUR: 'it returns false'. Refute it at one input. -/
def fnValueWrong : ChangeSpec := { name := "fnValue", fn := fun _ => fun
  | [d] => { results := [.lit (.bool false)], args := [d] }
  | _ => none }
def FnValueWrongFalsely : Prop := fnValueRow.holds Tryd.pinned (OpenSpec.ofChange fnValueWrong)

/-- 'laws.FnOther': WHATEVER THE INPUT: true; the input reads as it did. -/
def fnOtherSpec : ChangeSpec := { name := "fnOther", fn := fun _ => fun
  | [d] => { results := [.lit (.bool true)], args := [d] }
  | _ => none }
def fnOtherRow : OpenClaim := { program := "ytncjidkgbfilkabdoor", sum := "7f01767610c715442f4c186da693ff87d2fb243ab7fb75d8a7e2a3fe7633bd7b", func := "loop.example/toricfans/laws.FnOther", spec := "fnOther", inPlace := ["internal/reflectlite.ValueOf", "(internal/reflectlite.Value).Type", "(internal/reflectlite.Value).IsNil", "internal/reflectlite.TypeOf", "(internal/reflectlite.Value).Elem", "(internal/reflectlite.Value).Set"], unfollowed := true, recurses := true, named := ["errors.errorType"], apart := false, laid := [("errors.errorType", laid_errors_errorType)] }
def FnOtherSaid : Prop := fnOtherRow.holds Tryd.pinned (OpenSpec.ofChange fnOtherSpec)

/-- ITS FALSE NEIGHBOUR: 'it returns false'. Refute it at one input. -/
def fnOtherWrong : ChangeSpec := { name := "fnOther", fn := fun _ => fun
  | [d] => { results := [.lit (.bool false)], args := [d] }
  | _ => none }
def FnOtherWrongFalsely : Prop := fnOtherRow.holds Tryd.pinned (OpenSpec.ofChange fnOtherWrong)

/-- 'laws.FnMatTurned': WHATEVER THE INPUT: true; the input reads as it did. -/
def fnMatTurnedSpec : ChangeSpec := { name := "fnMatTurned", fn := fun _ => fun
  | [d] => { results := [.lit (.bool true)], args := [d] }
  | _ => none }
def fnMatTurnedRow : OpenClaim := { program := "ytncjidkgbfilkabdoor", sum := "7f01767610c715442f4c186da693ff87d2fb243ab7fb75d8a7e2a3fe7633bd7b", func := "loop.example/toricfans/laws.FnMatTurned", spec := "fnMatTurned", inPlace := ["internal/reflectlite.ValueOf", "(internal/reflectlite.Value).Type", "(internal/reflectlite.Value).IsNil", "internal/reflectlite.TypeOf", "(internal/reflectlite.Value).Elem", "(internal/reflectlite.Value).Set"], unfollowed := true, recurses := true, named := ["errors.errorType"], apart := false, laid := [("errors.errorType", laid_errors_errorType)] }
def FnMatTurnedSaid : Prop := fnMatTurnedRow.holds Tryd.pinned (OpenSpec.ofChange fnMatTurnedSpec)

/-- ITS FALSE NEIGHBOUR: 'it returns false'. Refute it at one input. -/
def fnMatTurnedWrong : ChangeSpec := { name := "fnMatTurned", fn := fun _ => fun
  | [d] => { results := [.lit (.bool false)], args := [d] }
  | _ => none }
def FnMatTurnedWrongFalsely : Prop := fnMatTurnedRow.holds Tryd.pinned (OpenSpec.ofChange fnMatTurnedWrong)

/- THE SECOND FORM. 'bulk': how many values and letters a reading holds, each counted each time it is reached (what is shared counts as often as it is met; a slice's spare places count too). A statement '..UptoSaid' is the law's where the arguments, and the package variables that the reading takes, are together of bulk at most 1048576: NARROWER than '..Said'. Prove '..Said' where nothing that the law and all that it calls make is longer than what came in: it says more and counts as full. Else prove '..UptoSaid'. A law counts once. -/
mutual
def uptoBulk {H : Type} : DataW H → Nat
  | .lit (.string bytes) => bytes.length + 1
  | .lit _ => 1
  | .nil => 1
  | .ptr d => uptoBulk d + 1
  | .slice elems spare => uptoBulkAll elems + uptoBulkAll spare + 1
  | .agg parts => uptoBulkAll parts + 1
  | .iface _ d => uptoBulk d + 1
  | .map entries => uptoBulkEntries entries + 1
  | .held _ => 1
def uptoBulkAll {H : Type} : List (DataW H) → Nat
  | [] => 0
  | d :: r => uptoBulk d + uptoBulkAll r
def uptoBulkEntries {H : Type} : List (Lit × DataW H) → Nat
  | [] => 0
  | x :: r => uptoBulkEntry x + uptoBulkEntries r
def uptoBulkEntry {H : Type} : Lit × DataW H → Nat
  | (.string bytes, d) => bytes.length + uptoBulk d + 1
  | (_, d) => uptoBulk d + 1
 end
def uptoSmall : (H : Type) → List (DataW H) → Bool := fun _ ds => decide (uptoBulkAll ds ≤ 1048576)
def OpenSpec.upto (s : _root_.Go.ChangeSpec) : _root_.Go.OpenSpec := { _root_.Go.OpenSpec.ofChange s with cond := some uptoSmall }

/-- 'laws.FnExactConeBase', WHERE WHAT IT READS IS OF BULK AT MOST 1048576: true; the input reads as it did. -/
def fnExactConeBaseUptoRow : OpenClaim := { program := "ytncjidkgbfilkabdoor", sum := "7f01767610c715442f4c186da693ff87d2fb243ab7fb75d8a7e2a3fe7633bd7b", func := "loop.example/toricfans/laws.FnExactConeBase", spec := "fnExactConeBase", inPlace := ["internal/reflectlite.ValueOf", "(internal/reflectlite.Value).Type", "(internal/reflectlite.Value).IsNil", "internal/reflectlite.TypeOf", "(internal/reflectlite.Value).Elem", "(internal/reflectlite.Value).Set"], unfollowed := true, recurses := true, named := ["errors.errorType"], apart := false, laid := [("errors.errorType", laid_errors_errorType)], narrowed := true }
def FnExactConeBaseUptoSaid : Prop := fnExactConeBaseUptoRow.holds Tryd.pinned (OpenSpec.upto fnExactConeBaseSpec)

/-- 'laws.FnExactFractionValue', WHERE WHAT IT READS IS OF BULK AT MOST 1048576: true; the input reads as it did. -/
def fnExactFractionValueUptoRow : OpenClaim := { program := "ytncjidkgbfilkabdoor", sum := "7f01767610c715442f4c186da693ff87d2fb243ab7fb75d8a7e2a3fe7633bd7b", func := "loop.example/toricfans/laws.FnExactFractionValue", spec := "fnExactFractionValue", inPlace := ["internal/reflectlite.ValueOf", "(internal/reflectlite.Value).Type", "(internal/reflectlite.Value).IsNil", "internal/reflectlite.TypeOf", "(internal/reflectlite.Value).Elem", "(internal/reflectlite.Value).Set"], unfollowed := true, recurses := true, named := ["errors.errorType"], apart := false, laid := [("errors.errorType", laid_errors_errorType)], narrowed := true }
def FnExactFractionValueUptoSaid : Prop := fnExactFractionValueUptoRow.holds Tryd.pinned (OpenSpec.upto fnExactFractionValueSpec)

/-- 'laws.FnExactFractionOther', WHERE WHAT IT READS IS OF BULK AT MOST 1048576: true; the input reads as it did. -/
def fnExactFractionOtherUptoRow : OpenClaim := { program := "ytncjidkgbfilkabdoor", sum := "7f01767610c715442f4c186da693ff87d2fb243ab7fb75d8a7e2a3fe7633bd7b", func := "loop.example/toricfans/laws.FnExactFractionOther", spec := "fnExactFractionOther", inPlace := ["internal/reflectlite.ValueOf", "(internal/reflectlite.Value).Type", "(internal/reflectlite.Value).IsNil", "internal/reflectlite.TypeOf", "(internal/reflectlite.Value).Elem", "(internal/reflectlite.Value).Set"], unfollowed := true, recurses := true, named := ["errors.errorType"], apart := false, laid := [("errors.errorType", laid_errors_errorType)], narrowed := true }
def FnExactFractionOtherUptoSaid : Prop := fnExactFractionOtherUptoRow.holds Tryd.pinned (OpenSpec.upto fnExactFractionOtherSpec)

/-- 'laws.FnFraction', WHERE WHAT IT READS IS OF BULK AT MOST 1048576: true; the input reads as it did. -/
def fnFractionUptoRow : OpenClaim := { program := "ytncjidkgbfilkabdoor", sum := "7f01767610c715442f4c186da693ff87d2fb243ab7fb75d8a7e2a3fe7633bd7b", func := "loop.example/toricfans/laws.FnFraction", spec := "fnFraction", inPlace := ["internal/reflectlite.ValueOf", "(internal/reflectlite.Value).Type", "(internal/reflectlite.Value).IsNil", "internal/reflectlite.TypeOf", "(internal/reflectlite.Value).Elem", "(internal/reflectlite.Value).Set"], unfollowed := true, recurses := true, named := ["errors.errorType"], apart := false, laid := [("errors.errorType", laid_errors_errorType)], narrowed := true }
def FnFractionUptoSaid : Prop := fnFractionUptoRow.holds Tryd.pinned (OpenSpec.upto fnFractionSpec)

/-- 'laws.FnValue', WHERE WHAT IT READS IS OF BULK AT MOST 1048576: true; the input reads as it did. -/
def fnValueUptoRow : OpenClaim := { program := "ytncjidkgbfilkabdoor", sum := "7f01767610c715442f4c186da693ff87d2fb243ab7fb75d8a7e2a3fe7633bd7b", func := "loop.example/toricfans/laws.FnValue", spec := "fnValue", inPlace := ["internal/reflectlite.ValueOf", "(internal/reflectlite.Value).Type", "(internal/reflectlite.Value).IsNil", "internal/reflectlite.TypeOf", "(internal/reflectlite.Value).Elem", "(internal/reflectlite.Value).Set"], unfollowed := true, recurses := true, named := ["errors.errorType"], apart := false, laid := [("errors.errorType", laid_errors_errorType)], narrowed := true }
def FnValueUptoSaid : Prop := fnValueUptoRow.holds Tryd.pinned (OpenSpec.upto fnValueSpec)

/-- 'laws.FnOther', WHERE WHAT IT READS IS OF BULK AT MOST 1048576: true; the input reads as it did. -/
def fnOtherUptoRow : OpenClaim := { program := "ytncjidkgbfilkabdoor", sum := "7f01767610c715442f4c186da693ff87d2fb243ab7fb75d8a7e2a3fe7633bd7b", func := "loop.example/toricfans/laws.FnOther", spec := "fnOther", inPlace := ["internal/reflectlite.ValueOf", "(internal/reflectlite.Value).Type", "(internal/reflectlite.Value).IsNil", "internal/reflectlite.TypeOf", "(internal/reflectlite.Value).Elem", "(internal/reflectlite.Value).Set"], unfollowed := true, recurses := true, named := ["errors.errorType"], apart := false, laid := [("errors.errorType", laid_errors_errorType)], narrowed := true }
def FnOtherUptoSaid : Prop := fnOtherUptoRow.holds Tryd.pinned (OpenSpec.upto fnOtherSpec)

/-- 'laws.FnMatTurned', WHERE WHAT IT READS IS OF BULK AT MOST 1048576: true; the input reads as it did. -/
def fnMatTurnedUptoRow : OpenClaim := { program := "ytncjidkgbfilkabdoor", sum := "7f01767610c715442f4c186da693ff87d2fb243ab7fb75d8a7e2a3fe7633bd7b", func := "loop.example/toricfans/laws.FnMatTurned", spec := "fnMatTurned", inPlace := ["internal/reflectlite.ValueOf", "(internal/reflectlite.Value).Type", "(internal/reflectlite.Value).IsNil", "internal/reflectlite.TypeOf", "(internal/reflectlite.Value).Elem", "(internal/reflectlite.Value).Set"], unfollowed := true, recurses := true, named := ["errors.errorType"], apart := false, laid := [("errors.errorType", laid_errors_errorType)], narrowed := true }
def FnMatTurnedUptoSaid : Prop := fnMatTurnedUptoRow.holds Tryd.pinned (OpenSpec.upto fnMatTurnedSpec)

end Rows
end Go.Proofs.YtncjidkgbfilkabDoor
