/-
  NARROWER THAN 'FOR EVERY INPUT', by the rows' own cells (each row's printed sentence says how): FnExactConeIn: laid · FnExactConeIndex: laid · FnExactConeHas: laid · FnExactConeKind: laid · FnExactConeFraction: laid · FnExactConeDual: laid · FnExactConeMove: laid · FnExactConeParts: laid.
  DERIVED. THE GIVEN ROWS OF THIS SEAT. 8 by the template 'for every input the law returns true; each argument reads behind the call as it read before'; 0 by the template 'total and deterministic' (their statements: YtncjidkgbfilkaaDoorTotals.lean).
  GIVEN WITH THE SEED: the statements are not yours to turn. If you find one false, say at which input.
  Laid BY PROGRAM, IN A SANDBOX (cutbox-rows.mjs): the forced cells as the released guide's own fill.sh prints them over the translation 49674d7a336be350… (all of the seat's roots in one cut). By AI agents, Wed Nov 11 2026. No macro, syntax, notation, axiom, sorry.
-/
import Derived.Test.YtncjidkgbfilkaaDoorChecked
import GoSem.Claim
import GoSem.ClaimJoined
import GoSem.ClaimMapViews
import Derived.JoinedTies
import Derived.KernelRfl
namespace Go.Proofs.YtncjidkgbfilkaaDoor
/- THE CELL 'sum', in the pinned program and in every row, IS THE sha256 OF THE DUMP (.gsa) THAT YtncjidkgbfilkaaDoorProg.lean LOADS. Nothing in Lean hashes anything: it is a label: what it is worth is what the hold of that sum in a sandbox is worth. -/
noncomputable def Tryd.pinned : Pinned := { name := "ytncjidkgbfilkaadoor", sum := "49674d7a336be35033b0346dfe67c9948f0326f4024c2a2f98bfee6f6c4292d4", checked := Tryd.checked }
namespace Rows
def none {H : Type} : Left H := { results := [], args := [] }

/- WHAT THE LISTED PACKAGE-LEVEL VARIABLES READ AS WHEN THE CALL BEGINS. Each datum BY PROGRAM (the guide's laid-datum.mjs) off the statement by which the dump's own 'gosem.cut.vars' lays the variable. In a bare row this is a premise. The card (YtncjidkgbfilkaaDoorCards.lean) ties it to the program's text. -/
def laid_errors_errorType {H : Type} : DataW H := .iface "internal/reflectlite.rtype" (.agg [.ptr (.lit (.string [101, 114, 114, 111, 114]))])

/-- 'laws.FnExactConeIn': WHATEVER THE INPUT: true; the input reads as it did. -/
def fnExactConeInSpec : ChangeSpec := { name := "fnExactConeIn", fn := fun _ => fun
  | [d] => { results := [.lit (.bool true)], args := [d] }
  | _ => none }
def fnExactConeInRow : OpenClaim := { program := "ytncjidkgbfilkaadoor", sum := "49674d7a336be35033b0346dfe67c9948f0326f4024c2a2f98bfee6f6c4292d4", func := "loop.example/toricfans/laws.FnExactConeIn", spec := "fnExactConeIn", inPlace := ["internal/reflectlite.ValueOf", "(internal/reflectlite.Value).Type", "(internal/reflectlite.Value).IsNil", "internal/reflectlite.TypeOf", "(internal/reflectlite.Value).Elem", "(internal/reflectlite.Value).Set"], unfollowed := true, recurses := true, named := ["errors.errorType"], apart := false, laid := [("errors.errorType", laid_errors_errorType)] }
def FnExactConeInSaid : Prop := fnExactConeInRow.holds Tryd.pinned (OpenSpec.ofChange fnExactConeInSpec)

/-- ITS FALSE NEIGHBOUR: 'it returns false'. Refute it at one input. -/
def fnExactConeInWrong : ChangeSpec := { name := "fnExactConeIn", fn := fun _ => fun
  | [d] => { results := [.lit (.bool false)], args := [d] }
  | _ => none }
def FnExactConeInWrongFalsely : Prop := fnExactConeInRow.holds Tryd.pinned (OpenSpec.ofChange fnExactConeInWrong)

/-- 'laws.FnExactConeIndex': WHATEVER THE INPUT: true; the input reads as it did. -/
def fnExactConeIndexSpec : ChangeSpec := { name := "fnExactConeIndex", fn := fun _ => fun
  | [d] => { results := [.lit (.bool true)], args := [d] }
  | _ => none }
def fnExactConeIndexRow : OpenClaim := { program := "ytncjidkgbfilkaadoor", sum := "49674d7a336be35033b0346dfe67c9948f0326f4024c2a2f98bfee6f6c4292d4", func := "loop.example/toricfans/laws.FnExactConeIndex", spec := "fnExactConeIndex", inPlace := ["internal/reflectlite.ValueOf", "(internal/reflectlite.Value).Type", "(internal/reflectlite.Value).IsNil", "internal/reflectlite.TypeOf", "(internal/reflectlite.Value).Elem", "(internal/reflectlite.Value).Set"], unfollowed := true, recurses := true, named := ["errors.errorType"], apart := false, laid := [("errors.errorType", laid_errors_errorType)] }
def FnExactConeIndexSaid : Prop := fnExactConeIndexRow.holds Tryd.pinned (OpenSpec.ofChange fnExactConeIndexSpec)

/-- ITS FALSE NEIGHBOUR: 'it returns false'. Refute it at one input. -/
def fnExactConeIndexWrong : ChangeSpec := { name := "fnExactConeIndex", fn := fun _ => fun
  | [d] => { results := [.lit (.bool false)], args := [d] }
  | _ => none }
def FnExactConeIndexWrongFalsely : Prop := fnExactConeIndexRow.holds Tryd.pinned (OpenSpec.ofChange fnExactConeIndexWrong)

/-- 'laws.FnExactConeHas': WHATEVER THE INPUT: true; the input reads as it did. -/
def fnExactConeHasSpec : ChangeSpec := { name := "fnExactConeHas", fn := fun _ => fun
  | [d1, d2] => { results := [.lit (.bool true)], args := [d1, d2] }
  | _ => none }
def fnExactConeHasRow : OpenClaim := { program := "ytncjidkgbfilkaadoor", sum := "49674d7a336be35033b0346dfe67c9948f0326f4024c2a2f98bfee6f6c4292d4", func := "loop.example/toricfans/laws.FnExactConeHas", spec := "fnExactConeHas", inPlace := ["internal/reflectlite.ValueOf", "(internal/reflectlite.Value).Type", "(internal/reflectlite.Value).IsNil", "internal/reflectlite.TypeOf", "(internal/reflectlite.Value).Elem", "(internal/reflectlite.Value).Set"], unfollowed := true, recurses := true, named := ["errors.errorType"], apart := false, laid := [("errors.errorType", laid_errors_errorType)] }
def FnExactConeHasSaid : Prop := fnExactConeHasRow.holds Tryd.pinned (OpenSpec.ofChange fnExactConeHasSpec)

/-- ITS FALSE NEIGHBOUR: 'it returns false'. Refute it at one input. -/
def fnExactConeHasWrong : ChangeSpec := { name := "fnExactConeHas", fn := fun _ => fun
  | [d1, d2] => { results := [.lit (.bool false)], args := [d1, d2] }
  | _ => none }
def FnExactConeHasWrongFalsely : Prop := fnExactConeHasRow.holds Tryd.pinned (OpenSpec.ofChange fnExactConeHasWrong)

/-- 'laws.FnExactConeKind': WHATEVER THE INPUT: true; the input reads as it did. -/
def fnExactConeKindSpec : ChangeSpec := { name := "fnExactConeKind", fn := fun _ => fun
  | [d] => { results := [.lit (.bool true)], args := [d] }
  | _ => none }
def fnExactConeKindRow : OpenClaim := { program := "ytncjidkgbfilkaadoor", sum := "49674d7a336be35033b0346dfe67c9948f0326f4024c2a2f98bfee6f6c4292d4", func := "loop.example/toricfans/laws.FnExactConeKind", spec := "fnExactConeKind", inPlace := ["internal/reflectlite.ValueOf", "(internal/reflectlite.Value).Type", "(internal/reflectlite.Value).IsNil", "internal/reflectlite.TypeOf", "(internal/reflectlite.Value).Elem", "(internal/reflectlite.Value).Set"], unfollowed := true, recurses := true, named := ["errors.errorType"], apart := false, laid := [("errors.errorType", laid_errors_errorType)] }
def FnExactConeKindSaid : Prop := fnExactConeKindRow.holds Tryd.pinned (OpenSpec.ofChange fnExactConeKindSpec)

/-- ITS FALSE NEIGHBOUR: 'it returns false'. Refute it at one input. -/
def fnExactConeKindWrong : ChangeSpec := { name := "fnExactConeKind", fn := fun _ => fun
  | [d] => { results := [.lit (.bool false)], args := [d] }
  | _ => none }
def FnExactConeKindWrongFalsely : Prop := fnExactConeKindRow.holds Tryd.pinned (OpenSpec.ofChange fnExactConeKindWrong)

/-- 'laws.FnExactConeFraction': WHATEVER THE INPUT: true; the input reads as it did. -/
def fnExactConeFractionSpec : ChangeSpec := { name := "fnExactConeFraction", fn := fun _ => fun
  | [d] => { results := [.lit (.bool true)], args := [d] }
  | _ => none }
def fnExactConeFractionRow : OpenClaim := { program := "ytncjidkgbfilkaadoor", sum := "49674d7a336be35033b0346dfe67c9948f0326f4024c2a2f98bfee6f6c4292d4", func := "loop.example/toricfans/laws.FnExactConeFraction", spec := "fnExactConeFraction", inPlace := ["internal/reflectlite.ValueOf", "(internal/reflectlite.Value).Type", "(internal/reflectlite.Value).IsNil", "internal/reflectlite.TypeOf", "(internal/reflectlite.Value).Elem", "(internal/reflectlite.Value).Set"], unfollowed := true, recurses := true, named := ["errors.errorType"], apart := false, laid := [("errors.errorType", laid_errors_errorType)] }
def FnExactConeFractionSaid : Prop := fnExactConeFractionRow.holds Tryd.pinned (OpenSpec.ofChange fnExactConeFractionSpec)

/-- ITS FALSE NEIGHBOUR: 'it returns false'. Refute it at one input. -/
def fnExactConeFractionWrong : ChangeSpec := { name := "fnExactConeFraction", fn := fun _ => fun
  | [d] => { results := [.lit (.bool false)], args := [d] }
  | _ => none }
def FnExactConeFractionWrongFalsely : Prop := fnExactConeFractionRow.holds Tryd.pinned (OpenSpec.ofChange fnExactConeFractionWrong)

/-- 'laws.FnExactConeDual': WHATEVER THE INPUT: true; the input reads as it did. -/
def fnExactConeDualSpec : ChangeSpec := { name := "fnExactConeDual", fn := fun _ => fun
  | [d] => { results := [.lit (.bool true)], args := [d] }
  | _ => none }
def fnExactConeDualRow : OpenClaim := { program := "ytncjidkgbfilkaadoor", sum := "49674d7a336be35033b0346dfe67c9948f0326f4024c2a2f98bfee6f6c4292d4", func := "loop.example/toricfans/laws.FnExactConeDual", spec := "fnExactConeDual", inPlace := ["internal/reflectlite.ValueOf", "(internal/reflectlite.Value).Type", "(internal/reflectlite.Value).IsNil", "internal/reflectlite.TypeOf", "(internal/reflectlite.Value).Elem", "(internal/reflectlite.Value).Set"], unfollowed := true, recurses := true, named := ["errors.errorType"], apart := false, laid := [("errors.errorType", laid_errors_errorType)] }
def FnExactConeDualSaid : Prop := fnExactConeDualRow.holds Tryd.pinned (OpenSpec.ofChange fnExactConeDualSpec)

/-- ITS FALSE NEIGHBOUR: 'it returns false'. Refute it at one input. -/
def fnExactConeDualWrong : ChangeSpec := { name := "fnExactConeDual", fn := fun _ => fun
  | [d] => { results := [.lit (.bool false)], args := [d] }
  | _ => none }
def FnExactConeDualWrongFalsely : Prop := fnExactConeDualRow.holds Tryd.pinned (OpenSpec.ofChange fnExactConeDualWrong)

/-- 'laws.FnExactConeMove': WHATEVER THE INPUT: true; the input reads as it did. -/
def fnExactConeMoveSpec : ChangeSpec := { name := "fnExactConeMove", fn := fun _ => fun
  | [d1, d2] => { results := [.lit (.bool true)], args := [d1, d2] }
  | _ => none }
def fnExactConeMoveRow : OpenClaim := { program := "ytncjidkgbfilkaadoor", sum := "49674d7a336be35033b0346dfe67c9948f0326f4024c2a2f98bfee6f6c4292d4", func := "loop.example/toricfans/laws.FnExactConeMove", spec := "fnExactConeMove", inPlace := ["internal/reflectlite.ValueOf", "(internal/reflectlite.Value).Type", "(internal/reflectlite.Value).IsNil", "internal/reflectlite.TypeOf", "(internal/reflectlite.Value).Elem", "(internal/reflectlite.Value).Set"], unfollowed := true, recurses := true, named := ["errors.errorType"], apart := false, laid := [("errors.errorType", laid_errors_errorType)] }
def FnExactConeMoveSaid : Prop := fnExactConeMoveRow.holds Tryd.pinned (OpenSpec.ofChange fnExactConeMoveSpec)

/-- ITS FALSE NEIGHBOUR: 'it returns false'. Refute it at one input. -/
def fnExactConeMoveWrong : ChangeSpec := { name := "fnExactConeMove", fn := fun _ => fun
  | [d1, d2] => { results := [.lit (.bool false)], args := [d1, d2] }
  | _ => none }
def FnExactConeMoveWrongFalsely : Prop := fnExactConeMoveRow.holds Tryd.pinned (OpenSpec.ofChange fnExactConeMoveWrong)

/-- 'laws.FnExactConeParts': WHATEVER THE INPUT: true; the input reads as it did. -/
def fnExactConePartsSpec : ChangeSpec := { name := "fnExactConeParts", fn := fun _ => fun
  | [d1, d2] => { results := [.lit (.bool true)], args := [d1, d2] }
  | _ => none }
def fnExactConePartsRow : OpenClaim := { program := "ytncjidkgbfilkaadoor", sum := "49674d7a336be35033b0346dfe67c9948f0326f4024c2a2f98bfee6f6c4292d4", func := "loop.example/toricfans/laws.FnExactConeParts", spec := "fnExactConeParts", inPlace := ["internal/reflectlite.ValueOf", "(internal/reflectlite.Value).Type", "(internal/reflectlite.Value).IsNil", "internal/reflectlite.TypeOf", "(internal/reflectlite.Value).Elem", "(internal/reflectlite.Value).Set"], unfollowed := true, recurses := true, named := ["errors.errorType"], apart := false, laid := [("errors.errorType", laid_errors_errorType)] }
def FnExactConePartsSaid : Prop := fnExactConePartsRow.holds Tryd.pinned (OpenSpec.ofChange fnExactConePartsSpec)

/-- ITS FALSE NEIGHBOUR: 'it returns false'. Refute it at one input. -/
def fnExactConePartsWrong : ChangeSpec := { name := "fnExactConeParts", fn := fun _ => fun
  | [d1, d2] => { results := [.lit (.bool false)], args := [d1, d2] }
  | _ => none }
def FnExactConePartsWrongFalsely : Prop := fnExactConePartsRow.holds Tryd.pinned (OpenSpec.ofChange fnExactConePartsWrong)

/- THE SECOND FORM. 'bulk': how many values and letters a reading holds, each counted each time it is reached (what is shared counts as often as it is met; a slice's spare places count too). A statement '..UptoSaid' is the law's where the arguments, and the package variables that the reading takes, are together of bulk at most 1048576: NARROWER than '..Said'. Prove '..Said' where nothing that the law and all that it calls make is longer than what came in: it says more and counts as full. Else prove '..UptoSaid'. A law counts once. -/
mutual
def uptoBulk {H : Type} : DataW H → Nat
  | .lit (.string bytes) => bytes.length + 1
  | .lit _ => 1
  | .nil => 1
  | .ptr d => uptoBulk d + 1
  | .slice elems spare => uptoBulkAll elems + uptoBulkAll spare + 1
  | .agg parts => uptoBulkAll parts + 1
  | .iface _ d => uptoBulk d + 1
  | .map entries => uptoBulkEntries entries + 1
  | .held _ => 1
def uptoBulkAll {H : Type} : List (DataW H) → Nat
  | [] => 0
  | d :: r => uptoBulk d + uptoBulkAll r
def uptoBulkEntries {H : Type} : List (Lit × DataW H) → Nat
  | [] => 0
  | x :: r => uptoBulkEntry x + uptoBulkEntries r
def uptoBulkEntry {H : Type} : Lit × DataW H → Nat
  | (.string bytes, d) => bytes.length + uptoBulk d + 1
  | (_, d) => uptoBulk d + 1
 end
def uptoSmall : (H : Type) → List (DataW H) → Bool := fun _ ds => decide (uptoBulkAll ds ≤ 1048576)
def OpenSpec.upto (s : _root_.Go.ChangeSpec) : _root_.Go.OpenSpec := { _root_.Go.OpenSpec.ofChange s with cond := some uptoSmall }

/-- 'laws.FnExactConeIn', WHERE WHAT IT READS IS OF BULK AT MOST 1048576: true; the input reads as it did. -/
def fnExactConeInUptoRow : OpenClaim := { program := "ytncjidkgbfilkaadoor", sum := "49674d7a336be35033b0346dfe67c9948f0326f4024c2a2f98bfee6f6c4292d4", func := "loop.example/toricfans/laws.FnExactConeIn", spec := "fnExactConeIn", inPlace := ["internal/reflectlite.ValueOf", "(internal/reflectlite.Value).Type", "(internal/reflectlite.Value).IsNil", "internal/reflectlite.TypeOf", "(internal/reflectlite.Value).Elem", "(internal/reflectlite.Value).Set"], unfollowed := true, recurses := true, named := ["errors.errorType"], apart := false, laid := [("errors.errorType", laid_errors_errorType)], narrowed := true }
def FnExactConeInUptoSaid : Prop := fnExactConeInUptoRow.holds Tryd.pinned (OpenSpec.upto fnExactConeInSpec)

/-- 'laws.FnExactConeIndex', WHERE WHAT IT READS IS OF BULK AT MOST 1048576: true; the input reads as it did. -/
def fnExactConeIndexUptoRow : OpenClaim := { program := "ytncjidkgbfilkaadoor", sum := "49674d7a336be35033b0346dfe67c9948f0326f4024c2a2f98bfee6f6c4292d4", func := "loop.example/toricfans/laws.FnExactConeIndex", spec := "fnExactConeIndex", inPlace := ["internal/reflectlite.ValueOf", "(internal/reflectlite.Value).Type", "(internal/reflectlite.Value).IsNil", "internal/reflectlite.TypeOf", "(internal/reflectlite.Value).Elem", "(internal/reflectlite.Value).Set"], unfollowed := true, recurses := true, named := ["errors.errorType"], apart := false, laid := [("errors.errorType", laid_errors_errorType)], narrowed := true }
def FnExactConeIndexUptoSaid : Prop := fnExactConeIndexUptoRow.holds Tryd.pinned (OpenSpec.upto fnExactConeIndexSpec)

/-- 'laws.FnExactConeHas', WHERE WHAT IT READS IS OF BULK AT MOST 1048576: true; the input reads as it did. -/
def fnExactConeHasUptoRow : OpenClaim := { program := "ytncjidkgbfilkaadoor", sum := "49674d7a336be35033b0346dfe67c9948f0326f4024c2a2f98bfee6f6c4292d4", func := "loop.example/toricfans/laws.FnExactConeHas", spec := "fnExactConeHas", inPlace := ["internal/reflectlite.ValueOf", "(internal/reflectlite.Value).Type", "(internal/reflectlite.Value).IsNil", "internal/reflectlite.TypeOf", "(internal/reflectlite.Value).Elem", "(internal/reflectlite.Value).Set"], unfollowed := true, recurses := true, named := ["errors.errorType"], apart := false, laid := [("errors.errorType", laid_errors_errorType)], narrowed := true }
def FnExactConeHasUptoSaid : Prop := fnExactConeHasUptoRow.holds Tryd.pinned (OpenSpec.upto fnExactConeHasSpec)

/-- 'laws.FnExactConeKind', WHERE WHAT IT READS IS OF BULK AT MOST 1048576: true; the input reads as it did. -/
def fnExactConeKindUptoRow : OpenClaim := { program := "ytncjidkgbfilkaadoor", sum := "49674d7a336be35033b0346dfe67c9948f0326f4024c2a2f98bfee6f6c4292d4", func := "loop.example/toricfans/laws.FnExactConeKind", spec := "fnExactConeKind", inPlace := ["internal/reflectlite.ValueOf", "(internal/reflectlite.Value).Type", "(internal/reflectlite.Value).IsNil", "internal/reflectlite.TypeOf", "(internal/reflectlite.Value).Elem", "(internal/reflectlite.Value).Set"], unfollowed := true, recurses := true, named := ["errors.errorType"], apart := false, laid := [("errors.errorType", laid_errors_errorType)], narrowed := true }
def FnExactConeKindUptoSaid : Prop := fnExactConeKindUptoRow.holds Tryd.pinned (OpenSpec.upto fnExactConeKindSpec)

/-- 'laws.FnExactConeFraction', WHERE WHAT IT READS IS OF BULK AT MOST 1048576: true; the input reads as it did. -/
def fnExactConeFractionUptoRow : OpenClaim := { program := "ytncjidkgbfilkaadoor", sum := "49674d7a336be35033b0346dfe67c9948f0326f4024c2a2f98bfee6f6c4292d4", func := "loop.example/toricfans/laws.FnExactConeFraction", spec := "fnExactConeFraction", inPlace := ["internal/reflectlite.ValueOf", "(internal/reflectlite.Value).Type", "(internal/reflectlite.Value).IsNil", "internal/reflectlite.TypeOf", "(internal/reflectlite.Value).Elem", "(internal/reflectlite.Value).Set"], unfollowed := true, recurses := true, named := ["errors.errorType"], apart := false, laid := [("errors.errorType", laid_errors_errorType)], narrowed := true }
def FnExactConeFractionUptoSaid : Prop := fnExactConeFractionUptoRow.holds Tryd.pinned (OpenSpec.upto fnExactConeFractionSpec)

/-- 'laws.FnExactConeDual', WHERE WHAT IT READS IS OF BULK AT MOST 1048576: true; the input reads as it did. -/
def fnExactConeDualUptoRow : OpenClaim := { program := "ytncjidkgbfilkaadoor", sum := "49674d7a336be35033b0346dfe67c9948f0326f4024c2a2f98bfee6f6c4292d4", func := "loop.example/toricfans/laws.FnExactConeDual", spec := "fnExactConeDual", inPlace := ["internal/reflectlite.ValueOf", "(internal/reflectlite.Value).Type", "(internal/reflectlite.Value).IsNil", "internal/reflectlite.TypeOf", "(internal/reflectlite.Value).Elem", "(internal/reflectlite.Value).Set"], unfollowed := true, recurses := true, named := ["errors.errorType"], apart := false, laid := [("errors.errorType", laid_errors_errorType)], narrowed := true }
def FnExactConeDualUptoSaid : Prop := fnExactConeDualUptoRow.holds Tryd.pinned (OpenSpec.upto fnExactConeDualSpec)

/-- 'laws.FnExactConeMove', WHERE WHAT IT READS IS OF BULK AT MOST 1048576: true; the input reads as it did. -/
def fnExactConeMoveUptoRow : OpenClaim := { program := "ytncjidkgbfilkaadoor", sum := "49674d7a336be35033b0346dfe67c9948f0326f4024c2a2f98bfee6f6c4292d4", func := "loop.example/toricfans/laws.FnExactConeMove", spec := "fnExactConeMove", inPlace := ["internal/reflectlite.ValueOf", "(internal/reflectlite.Value).Type", "(internal/reflectlite.Value).IsNil", "internal/reflectlite.TypeOf", "(internal/reflectlite.Value).Elem", "(internal/reflectlite.Value).Set"], unfollowed := true, recurses := true, named := ["errors.errorType"], apart := false, laid := [("errors.errorType", laid_errors_errorType)], narrowed := true }
def FnExactConeMoveUptoSaid : Prop := fnExactConeMoveUptoRow.holds Tryd.pinned (OpenSpec.upto fnExactConeMoveSpec)

/-- 'laws.FnExactConeParts', WHERE WHAT IT READS IS OF BULK AT MOST 1048576: true; the input reads as it did. -/
def fnExactConePartsUptoRow : OpenClaim := { program := "ytncjidkgbfilkaadoor", sum := "49674d7a336be35033b0346dfe67c9948f0326f4024c2a2f98bfee6f6c4292d4", func := "loop.example/toricfans/laws.FnExactConeParts", spec := "fnExactConeParts", inPlace := ["internal/reflectlite.ValueOf", "(internal/reflectlite.Value).Type", "(internal/reflectlite.Value).IsNil", "internal/reflectlite.TypeOf", "(internal/reflectlite.Value).Elem", "(internal/reflectlite.Value).Set"], unfollowed := true, recurses := true, named := ["errors.errorType"], apart := false, laid := [("errors.errorType", laid_errors_errorType)], narrowed := true }
def FnExactConePartsUptoSaid : Prop := fnExactConePartsUptoRow.holds Tryd.pinned (OpenSpec.upto fnExactConePartsSpec)

end Rows
end Go.Proofs.YtncjidkgbfilkaaDoor
