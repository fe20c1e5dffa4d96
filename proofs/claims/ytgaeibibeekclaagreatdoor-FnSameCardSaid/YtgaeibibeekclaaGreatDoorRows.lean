/-
  NARROWER THAN 'FOR EVERY INPUT', by the rows' own cells (each row's printed sentence says how): FnPolygonShift: laid · FnPolygonMove: laid · FnOneInner: laid · FnSame: laid.
  DERIVED. THE GIVEN ROWS OF THIS SEAT. 4 by the template 'for every input the law returns true; each argument reads behind the call as it read before'; 0 by the template 'total and deterministic' (their statements: YtgaeibibeekclaaGreatDoorTotals.lean).
  GIVEN WITH THE SEED: the statements are not yours to turn. If you find one false, say at which input.
  Laid BY PROGRAM, IN A SANDBOX (cutbox-rows.mjs): the forced cells as the released guide's own fill.sh prints them over the translation e7afeab2702e20ec… (all of the seat's roots in one cut). By AI agents, Wed Nov 11 2026. No macro, syntax, notation, axiom, sorry.
-/
import Derived.Test.YtgaeibibeekclaaGreatDoorChecked
import GoSem.Claim
import GoSem.ClaimJoined
import GoSem.ClaimMapViews
import Derived.JoinedTies
import Derived.KernelRfl
namespace Go.Proofs.YtgaeibibeekclaaGreatDoor
/- THE CELL 'sum', in the pinned program and in every row, IS THE sha256 OF THE DUMP (.gsa) THAT YtgaeibibeekclaaGreatDoorProg.lean LOADS. Nothing in Lean hashes anything: it is a label: what it is worth is what the hold of that sum in a sandbox is worth. -/
noncomputable def Tryz.pinned : Pinned := { name := "ytgaeibibeekclaagreatdoor", sum := "e7afeab2702e20ec34c9e9f03fec89eee5ab5216c3b620f51d8307695baf2fc2", checked := Tryz.checked }
namespace Rows
def none {H : Type} : Left H := { results := [], args := [] }

/- WHAT THE LISTED PACKAGE-LEVEL VARIABLES READ AS WHEN THE CALL BEGINS. Each datum BY PROGRAM (the guide's laid-datum.mjs) off the statement by which the dump's own 'gosem.cut.vars' lays the variable. In a bare row this is a premise. The card (YtgaeibibeekclaaGreatDoorCards.lean) ties it to the program's text. -/
def laid_errors_errorType {H : Type} : DataW H := .iface "internal/reflectlite.rtype" (.agg [.ptr (.lit (.string [101, 114, 114, 111, 114]))])

/-- 'laws.FnPolygonShift': WHATEVER THE INPUT: true; the input reads as it did. -/
def fnPolygonShiftSpec : ChangeSpec := { name := "fnPolygonShift", fn := fun _ => fun
  | [d] => { results := [.lit (.bool true)], args := [d] }
  | _ => none }
def fnPolygonShiftRow : OpenClaim := { program := "ytgaeibibeekclaagreatdoor", sum := "e7afeab2702e20ec34c9e9f03fec89eee5ab5216c3b620f51d8307695baf2fc2", func := "loop.example/toricfans/laws.FnPolygonShift", spec := "fnPolygonShift", inPlace := ["internal/reflectlite.ValueOf", "(internal/reflectlite.Value).Type", "(internal/reflectlite.Value).IsNil", "internal/reflectlite.TypeOf", "(internal/reflectlite.Value).Elem", "(internal/reflectlite.Value).Set"], unfollowed := true, recurses := true, named := ["errors.errorType"], apart := false, laid := [("errors.errorType", laid_errors_errorType)] }
def FnPolygonShiftSaid : Prop := fnPolygonShiftRow.holds Tryz.pinned (OpenSpec.ofChange fnPolygonShiftSpec)

/-- ITS FALSE NEIGHBOUR: 'it returns false'. Refute it at one input. -/
def fnPolygonShiftWrong : ChangeSpec := { name := "fnPolygonShift", fn := fun _ => fun
  | [d] => { results := [.lit (.bool false)], args := [d] }
  | _ => none }
def FnPolygonShiftWrongFalsely : Prop := fnPolygonShiftRow.holds Tryz.pinned (OpenSpec.ofChange fnPolygonShiftWrong)

/-- 'laws.FnPolygonMove': WHATEVER THE INPUT: true; the input reads as it did. -/
def fnPolygonMoveSpec : ChangeSpec := { name := "fnPolygonMove", fn := fun _ => fun
  | [d] => { results := [.lit (.bool true)], args := [d] }
  | _ => none }
def fnPolygonMoveRow : OpenClaim := { program := "ytgaeibibeekclaagreatdoor", sum := "e7afeab2702e20ec34c9e9f03fec89eee5ab5216c3b620f51d8307695baf2fc2", func := "loop.example/toricfans/laws.FnPolygonMove", spec := "fnPolygonMove", inPlace := ["internal/reflectlite.ValueOf", "(internal/reflectlite.Value).Type", "(internal/reflectlite.Value).IsNil", "internal/reflectlite.TypeOf", "(internal/reflectlite.Value).Elem", "(internal/reflectlite.Value).Set"], unfollowed := true, recurses := true, named := ["errors.errorType"], apart := false, laid := [("errors.errorType", laid_errors_errorType)] }
def FnPolygonMoveSaid : Prop := fnPolygonMoveRow.holds Tryz.pinned (OpenSpec.ofChange fnPolygonMoveSpec)

/-- ITS FALSE NEIGHBOUR: 'it returns false'. Refute it at one input. -/
def fnPolygonMoveWrong : ChangeSpec := { name := "fnPolygonMove", fn := fun _ => fun
  | [d] => { results := [.lit (.bool false)], args := [d] }
  | _ => none }
def FnPolygonMoveWrongFalsely : Prop := fnPolygonMoveRow.holds Tryz.pinned (OpenSpec.ofChange fnPolygonMoveWrong)

/-- 'laws.FnOneInner': WHATEVER THE INPUT: true; the input reads as it did. -/
def fnOneInnerSpec : ChangeSpec := { name := "fnOneInner", fn := fun _ => fun
  | [d] => { results := [.lit (.bool true)], args := [d] }
  | _ => none }
def fnOneInnerRow : OpenClaim := { program := "ytgaeibibeekclaagreatdoor", sum := "e7afeab2702e20ec34c9e9f03fec89eee5ab5216c3b620f51d8307695baf2fc2", func := "loop.example/toricfans/laws.FnOneInner", spec := "fnOneInner", inPlace := ["internal/reflectlite.ValueOf", "(internal/reflectlite.Value).Type", "(internal/reflectlite.Value).IsNil", "internal/reflectlite.TypeOf", "(internal/reflectlite.Value).Elem", "(internal/reflectlite.Value).Set"], unfollowed := true, recurses := true, named := ["errors.errorType"], apart := false, laid := [("errors.errorType", laid_errors_errorType)] }
def FnOneInnerSaid : Prop := fnOneInnerRow.holds Tryz.pinned (OpenSpec.ofChange fnOneInnerSpec)

/-- ITS FALSE NEIGHBOUR: 'it returns false'. Refute it at one input. -/
def fnOneInnerWrong : ChangeSpec := { name := "fnOneInner", fn := fun _ => fun
  | [d] => { results := [.lit (.bool false)], args := [d] }
  | _ => none }
def FnOneInnerWrongFalsely : Prop := fnOneInnerRow.holds Tryz.pinned (OpenSpec.ofChange fnOneInnerWrong)

/-- 'laws.FnSame': WHATEVER THE INPUT: true; the input reads as it did. -/
def fnSameSpec : ChangeSpec := { name := "fnSame", fn := fun _ => fun
  | [d] => { results := [.lit (.bool true)], args := [d] }
  | _ => none }
def fnSameRow : OpenClaim := { program := "ytgaeibibeekclaagreatdoor", sum := "e7afeab2702e20ec34c9e9f03fec89eee5ab5216c3b620f51d8307695baf2fc2", func := "loop.example/toricfans/laws.FnSame", spec := "fnSame", inPlace := ["internal/reflectlite.ValueOf", "(internal/reflectlite.Value).Type", "(internal/reflectlite.Value).IsNil", "internal/reflectlite.TypeOf", "(internal/reflectlite.Value).Elem", "(internal/reflectlite.Value).Set"], unfollowed := true, recurses := true, named := ["errors.errorType"], apart := false, laid := [("errors.errorType", laid_errors_errorType)] }
def FnSameSaid : Prop := fnSameRow.holds Tryz.pinned (OpenSpec.ofChange fnSameSpec)

/-- ITS FALSE NEIGHBOUR: 'it returns false'. Refute it at one input. -/
def fnSameWrong : ChangeSpec := { name := "fnSame", fn := fun _ => fun
  | [d] => { results := [.lit (.bool false)], args := [d] }
  | _ => none }
def FnSameWrongFalsely : Prop := fnSameRow.holds Tryz.pinned (OpenSpec.ofChange fnSameWrong)

/- THE SECOND FORM. 'bulk': how many values and letters a reading holds, each counted each time it is reached (what is shared counts as often as it is met; a slice's spare places count too). A statement '..UptoSaid' is the law's where the arguments, and the package variables that the reading takes, are together of bulk at most 1048576: NARROWER than '..Said'. Prove '..Said' where nothing that the law and all that it calls make is longer than what came in: it says more and counts as full. Else prove '..UptoSaid'. A law counts once. -/
mutual
def uptoBulk {H : Type} : DataW H → Nat
  | .lit (.string bytes) => bytes.length + 1
  | .lit _ => 1
  | .nil => 1
  | .ptr d => uptoBulk d + 1
  | .slice elems spare => uptoBulkAll elems + uptoBulkAll spare + 1
  | .agg parts => uptoBulkAll parts + 1
  | .iface _ d => uptoBulk d + 1
  | .map entries => uptoBulkEntries entries + 1
  | .held _ => 1
def uptoBulkAll {H : Type} : List (DataW H) → Nat
  | [] => 0
  | d :: r => uptoBulk d + uptoBulkAll r
def uptoBulkEntries {H : Type} : List (Lit × DataW H) → Nat
  | [] => 0
  | x :: r => uptoBulkEntry x + uptoBulkEntries r
def uptoBulkEntry {H : Type} : Lit × DataW H → Nat
  | (.string bytes, d) => bytes.length + uptoBulk d + 1
  | (_, d) => uptoBulk d + 1
 end
def uptoSmall : (H : Type) → List (DataW H) → Bool := fun _ ds => decide (uptoBulkAll ds ≤ 1048576)
def OpenSpec.upto (s : _root_.Go.ChangeSpec) : _root_.Go.OpenSpec := { _root_.Go.OpenSpec.ofChange s with cond := some uptoSmall }

/-- 'laws.FnPolygonShift', WHERE WHAT IT READS IS OF BULK AT MOST 1048576: true; the input reads as it did. -/
def fnPolygonShiftUptoRow : OpenClaim := { program := "ytgaeibibeekclaagreatdoor", sum := "e7afeab2702e20ec34c9e9f03fec89eee5ab5216c3b620f51d8307695baf2fc2", func := "loop.example/toricfans/laws.FnPolygonShift", spec := "fnPolygonShift", inPlace := ["internal/reflectlite.ValueOf", "(internal/reflectlite.Value).Type", "(internal/reflectlite.Value).IsNil", "internal/reflectlite.TypeOf", "(internal/reflectlite.Value).Elem", "(internal/reflectlite.Value).Set"], unfollowed := true, recurses := true, named := ["errors.errorType"], apart := false, laid := [("errors.errorType", laid_errors_errorType)], narrowed := true }
def FnPolygonShiftUptoSaid : Prop := fnPolygonShiftUptoRow.holds Tryz.pinned (OpenSpec.upto fnPolygonShiftSpec)

/-- 'laws.FnPolygonMove', WHERE WHAT IT READS IS OF BULK AT MOST 1048576: true; the input reads as it did. -/
def fnPolygonMoveUptoRow : OpenClaim := { program := "ytgaeibibeekclaagreatdoor", sum := "e7afeab2702e20ec34c9e9f03fec89eee5ab5216c3b620f51d8307695baf2fc2", func := "loop.example/toricfans/laws.FnPolygonMove", spec := "fnPolygonMove", inPlace := ["internal/reflectlite.ValueOf", "(internal/reflectlite.Value).Type", "(internal/reflectlite.Value).IsNil", "internal/reflectlite.TypeOf", "(internal/reflectlite.Value).Elem", "(internal/reflectlite.Value).Set"], unfollowed := true, recurses := true, named := ["errors.errorType"], apart := false, laid := [("errors.errorType", laid_errors_errorType)], narrowed := true }
def FnPolygonMoveUptoSaid : Prop := fnPolygonMoveUptoRow.holds Tryz.pinned (OpenSpec.upto fnPolygonMoveSpec)

/-- 'laws.FnOneInner', WHERE WHAT IT READS IS OF BULK AT MOST 1048576: true; the input reads as it did. -/
def fnOneInnerUptoRow : OpenClaim := { program := "ytgaeibibeekclaagreatdoor", sum := "e7afeab2702e20ec34c9e9f03fec89eee5ab5216c3b620f51d8307695baf2fc2", func := "loop.example/toricfans/laws.FnOneInner", spec := "fnOneInner", inPlace := ["internal/reflectlite.ValueOf", "(internal/reflectlite.Value).Type", "(internal/reflectlite.Value).IsNil", "internal/reflectlite.TypeOf", "(internal/reflectlite.Value).Elem", "(internal/reflectlite.Value).Set"], unfollowed := true, recurses := true, named := ["errors.errorType"], apart := false, laid := [("errors.errorType", laid_errors_errorType)], narrowed := true }
def FnOneInnerUptoSaid : Prop := fnOneInnerUptoRow.holds Tryz.pinned (OpenSpec.upto fnOneInnerSpec)

/-- 'laws.FnSame', WHERE WHAT IT READS IS OF BULK AT MOST 1048576: true; the input reads as it did. -/
def fnSameUptoRow : OpenClaim := { program := "ytgaeibibeekclaagreatdoor", sum := "e7afeab2702e20ec34c9e9f03fec89eee5ab5216c3b620f51d8307695baf2fc2", func := "loop.example/toricfans/laws.FnSame", spec := "fnSame", inPlace := ["internal/reflectlite.ValueOf", "(internal/reflectlite.Value).Type", "(internal/reflectlite.Value).IsNil", "internal/reflectlite.TypeOf", "(internal/reflectlite.Value).Elem", "(internal/reflectlite.Value).Set"], unfollowed := true, recurses := true, named := ["errors.errorType"], apart := false, laid := [("errors.errorType", laid_errors_errorType)], narrowed := true }
def FnSameUptoSaid : Prop := fnSameUptoRow.holds Tryz.pinned (OpenSpec.upto fnSameSpec)

end Rows
end Go.Proofs.YtgaeibibeekclaaGreatDoor
