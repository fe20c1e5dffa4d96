/-
  NARROWER THAN 'FOR EVERY INPUT', by the rows' own cells (each row's printed sentence says how): FnExactDivisorPlain: laid · FnExactSectionCorners: laid · FnExactSectionArea: laid.
  DERIVED. THE GIVEN ROWS OF THIS SEAT. 3 by the template 'for every input the law returns true; each argument reads behind the call as it read before'; 0 by the template 'total and deterministic' (their statements: YtcieihbknfeddabGreatDoorTotals.lean).
  GIVEN WITH THE SEED: the statements are not yours to turn. If you find one false, say at which input.
  Laid BY PROGRAM, IN A SANDBOX (cutbox-rows.mjs): the forced cells as the released guide's own fill.sh prints them over the translation ba3ae79164c4d5fc… (all of the seat's roots in one cut). By AI agents, Wed Nov 11 2026. No macro, syntax, notation, axiom, sorry.
-/
import Derived.Test.YtcieihbknfeddabGreatDoorChecked
import GoSem.Claim
import GoSem.ClaimJoined
import GoSem.ClaimMapViews
import Derived.JoinedTies
import Derived.KernelRfl
namespace Go.Proofs.YtcieihbknfeddabGreatDoor
/- THE CELL 'sum', in the pinned program and in every row, IS THE sha256 OF THE DUMP (.gsa) THAT YtcieihbknfeddabGreatDoorProg.lean LOADS. Nothing in Lean hashes anything: it is a label: what it is worth is what the hold of that sum in a sandbox is worth. -/
noncomputable def Tryz.pinned : Pinned := { name := "ytcieihbknfeddabgreatdoor", sum := "ba3ae79164c4d5fc39db10cf0a72df5a037c37f26dbfcf7086ea1b5b5ba3d532", checked := Tryz.checked }
namespace Rows
def none {H : Type} : Left H := { results := [], args := [] }

/- WHAT THE LISTED PACKAGE-LEVEL VARIABLES READ AS WHEN THE CALL BEGINS. Each datum BY PROGRAM (the guide's laid-datum.mjs) off the statement by which the dump's own 'gosem.cut.vars' lays the variable. In a bare row this is a premise. The card (YtcieihbknfeddabGreatDoorCards.lean) ties it to the program's text. -/
def laid_errors_errorType {H : Type} : DataW H := .iface "internal/reflectlite.rtype" (.agg [.ptr (.lit (.string [101, 114, 114, 111, 114]))])

/-- 'laws.FnExactDivisorPlain': WHATEVER THE INPUT: true; the input reads as it did. -/
def fnExactDivisorPlainSpec : ChangeSpec := { name := "fnExactDivisorPlain", fn := fun _ => fun
  | [d1, d2] => { results := [.lit (.bool true)], args := [d1, d2] }
  | _ => none }
def fnExactDivisorPlainRow : OpenClaim := { program := "ytcieihbknfeddabgreatdoor", sum := "ba3ae79164c4d5fc39db10cf0a72df5a037c37f26dbfcf7086ea1b5b5ba3d532", func := "loop.example/toricfans/laws.FnExactDivisorPlain", spec := "fnExactDivisorPlain", inPlace := ["internal/reflectlite.ValueOf", "(internal/reflectlite.Value).Type", "(internal/reflectlite.Value).IsNil", "internal/reflectlite.TypeOf", "(internal/reflectlite.Value).Elem", "(internal/reflectlite.Value).Set"], unfollowed := true, recurses := true, named := ["errors.errorType"], apart := false, laid := [("errors.errorType", laid_errors_errorType)] }
def FnExactDivisorPlainSaid : Prop := fnExactDivisorPlainRow.holds Tryz.pinned (OpenSpec.ofChange fnExactDivisorPlainSpec)

/-- ITS FALSE NEIGHBOUR: 'it returns false'. Refute it at one input. -/
def fnExactDivisorPlainWrong : ChangeSpec := { name := "fnExactDivisorPlain", fn := fun _ => fun
  | [d1, d2] => { results := [.lit (.bool false)], args := [d1, d2] }
  | _ => none }
def FnExactDivisorPlainWrongFalsely : Prop := fnExactDivisorPlainRow.holds Tryz.pinned (OpenSpec.ofChange fnExactDivisorPlainWrong)

/-- 'laws.FnExactSectionCorners': WHATEVER THE INPUT: true; the input reads as it did. -/
def fnExactSectionCornersSpec : ChangeSpec := { name := "fnExactSectionCorners", fn := fun _ => fun
  | [d1, d2] => { results := [.lit (.bool true)], args := [d1, d2] }
  | _ => none }
def fnExactSectionCornersRow : OpenClaim := { program := "ytcieihbknfeddabgreatdoor", sum := "ba3ae79164c4d5fc39db10cf0a72df5a037c37f26dbfcf7086ea1b5b5ba3d532", func := "loop.example/toricfans/laws.FnExactSectionCorners", spec := "fnExactSectionCorners", inPlace := ["internal/reflectlite.ValueOf", "(internal/reflectlite.Value).Type", "(internal/reflectlite.Value).IsNil", "internal/reflectlite.TypeOf", "(internal/reflectlite.Value).Elem", "(internal/reflectlite.Value).Set"], unfollowed := true, recurses := true, named := ["errors.errorType"], apart := false, laid := [("errors.errorType", laid_errors_errorType)] }
def FnExactSectionCornersSaid : Prop := fnExactSectionCornersRow.holds Tryz.pinned (OpenSpec.ofChange fnExactSectionCornersSpec)

/-- ITS FALSE NEIGHBOUR: 'it returns false'. Refute it at one input. -/
def fnExactSectionCornersWrong : ChangeSpec := { name := "fnExactSectionCorners", fn := fun _ => fun
  | [d1, d2] => { results := [.lit (.bool false)], args := [d1, d2] }
  | _ => none }
def FnExactSectionCornersWrongFalsely : Prop := fnExactSectionCornersRow.holds Tryz.pinned (OpenSpec.ofChange fnExactSectionCornersWrong)

/-- 'laws.FnExactSectionArea': WHATEVER THE INPUT: true; the input reads as it did. -/
def fnExactSectionAreaSpec : ChangeSpec := { name := "fnExactSectionArea", fn := fun _ => fun
  | [d1, d2] => { results := [.lit (.bool true)], args := [d1, d2] }
  | _ => none }
def fnExactSectionAreaRow : OpenClaim := { program := "ytcieihbknfeddabgreatdoor", sum := "ba3ae79164c4d5fc39db10cf0a72df5a037c37f26dbfcf7086ea1b5b5ba3d532", func := "loop.example/toricfans/laws.FnExactSectionArea", spec := "fnExactSectionArea", inPlace := ["internal/reflectlite.ValueOf", "(internal/reflectlite.Value).Type", "(internal/reflectlite.Value).IsNil", "internal/reflectlite.TypeOf", "(internal/reflectlite.Value).Elem", "(internal/reflectlite.Value).Set"], unfollowed := true, recurses := true, named := ["errors.errorType"], apart := false, laid := [("errors.errorType", laid_errors_errorType)] }
def FnExactSectionAreaSaid : Prop := fnExactSectionAreaRow.holds Tryz.pinned (OpenSpec.ofChange fnExactSectionAreaSpec)

/-- ITS FALSE NEIGHBOUR: 'it returns false'. Refute it at one input. -/
def fnExactSectionAreaWrong : ChangeSpec := { name := "fnExactSectionArea", fn := fun _ => fun
  | [d1, d2] => { results := [.lit (.bool false)], args := [d1, d2] }
  | _ => none }
def FnExactSectionAreaWrongFalsely : Prop := fnExactSectionAreaRow.holds Tryz.pinned (OpenSpec.ofChange fnExactSectionAreaWrong)

/- THE SECOND FORM. 'bulk': how many values and letters a reading holds, each counted each time it is reached (what is shared counts as often as it is met; a slice's spare places count too). A statement '..UptoSaid' is the law's where the arguments, and the package variables that the reading takes, are together of bulk at most 1048576: NARROWER than '..Said'. Prove '..Said' where nothing that the law and all that it calls make is longer than what came in: it says more and counts as full. Else prove '..UptoSaid'. A law counts once. -/
mutual
def uptoBulk {H : Type} : DataW H → Nat
  | .lit (.string bytes) => bytes.length + 1
  | .lit _ => 1
  | .nil => 1
  | .ptr d => uptoBulk d + 1
  | .slice elems spare => uptoBulkAll elems + uptoBulkAll spare + 1
  | .agg parts => uptoBulkAll parts + 1
  | .iface _ d => uptoBulk d + 1
  | .map entries => uptoBulkEntries entries + 1
  | .held _ => 1
def uptoBulkAll {H : Type} : List (DataW H) → Nat
  | [] => 0
  | d :: r => uptoBulk d + uptoBulkAll r
def uptoBulkEntries {H : Type} : List (Lit × DataW H) → Nat
  | [] => 0
  | x :: r => uptoBulkEntry x + uptoBulkEntries r
def uptoBulkEntry {H : Type} : Lit × DataW H → Nat
  | (.string bytes, d) => bytes.length + uptoBulk d + 1
  | (_, d) => uptoBulk d + 1
 end
def uptoSmall : (H : Type) → List (DataW H) → Bool := fun _ ds => decide (uptoBulkAll ds ≤ 1048576)
def OpenSpec.upto (s : _root_.Go.ChangeSpec) : _root_.Go.OpenSpec := { _root_.Go.OpenSpec.ofChange s with cond := some uptoSmall }

/-- 'laws.FnExactDivisorPlain', WHERE WHAT IT READS IS OF BULK AT MOST 1048576: true; the input reads as it did. -/
def fnExactDivisorPlainUptoRow : OpenClaim := { program := "ytcieihbknfeddabgreatdoor", sum := "ba3ae79164c4d5fc39db10cf0a72df5a037c37f26dbfcf7086ea1b5b5ba3d532", func := "loop.example/toricfans/laws.FnExactDivisorPlain", spec := "fnExactDivisorPlain", inPlace := ["internal/reflectlite.ValueOf", "(internal/reflectlite.Value).Type", "(internal/reflectlite.Value).IsNil", "internal/reflectlite.TypeOf", "(internal/reflectlite.Value).Elem", "(internal/reflectlite.Value).Set"], unfollowed := true, recurses := true, named := ["errors.errorType"], apart := false, laid := [("errors.errorType", laid_errors_errorType)], narrowed := true }
def FnExactDivisorPlainUptoSaid : Prop := fnExactDivisorPlainUptoRow.holds Tryz.pinned (OpenSpec.upto fnExactDivisorPlainSpec)

/-- 'laws.FnExactSectionCorners', WHERE WHAT IT READS IS OF BULK AT MOST 1048576: true; the input reads as it did. -/
def fnExactSectionCornersUptoRow : OpenClaim := { program := "ytcieihbknfeddabgreatdoor", sum := "ba3ae79164c4d5fc39db10cf0a72df5a037c37f26dbfcf7086ea1b5b5ba3d532", func := "loop.example/toricfans/laws.FnExactSectionCorners", spec := "fnExactSectionCorners", inPlace := ["internal/reflectlite.ValueOf", "(internal/reflectlite.Value).Type", "(internal/reflectlite.Value).IsNil", "internal/reflectlite.TypeOf", "(internal/reflectlite.Value).Elem", "(internal/reflectlite.Value).Set"], unfollowed := true, recurses := true, named := ["errors.errorType"], apart := false, laid := [("errors.errorType", laid_errors_errorType)], narrowed := true }
def FnExactSectionCornersUptoSaid : Prop := fnExactSectionCornersUptoRow.holds Tryz.pinned (OpenSpec.upto fnExactSectionCornersSpec)

/-- 'laws.FnExactSectionArea', WHERE WHAT IT READS IS OF BULK AT MOST 1048576: true; the input reads as it did. -/
def fnExactSectionAreaUptoRow : OpenClaim := { program := "ytcieihbknfeddabgreatdoor", sum := "ba3ae79164c4d5fc39db10cf0a72df5a037c37f26dbfcf7086ea1b5b5ba3d532", func := "loop.example/toricfans/laws.FnExactSectionArea", spec := "fnExactSectionArea", inPlace := ["internal/reflectlite.ValueOf", "(internal/reflectlite.Value).Type", "(internal/reflectlite.Value).IsNil", "internal/reflectlite.TypeOf", "(internal/reflectlite.Value).Elem", "(internal/reflectlite.Value).Set"], unfollowed := true, recurses := true, named := ["errors.errorType"], apart := false, laid := [("errors.errorType", laid_errors_errorType)], narrowed := true }
def FnExactSectionAreaUptoSaid : Prop := fnExactSectionAreaUptoRow.holds Tryz.pinned (OpenSpec.upto fnExactSectionAreaSpec)

end Rows
end Go.Proofs.YtcieihbknfeddabGreatDoor
