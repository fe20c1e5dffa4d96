/-
  NARROWER THAN 'FOR EVERY INPUT', by the rows' own cells (each row's printed sentence says how): FnExactReflexiveDual: laid · FnExactReflexiveTwelve: laid · FnExactReflexiveFan: laid · FnExactReflexiveNumbers: laid.
  DERIVED. THE GIVEN ROWS OF THIS SEAT. 4 by the template 'for every input the law returns true; each argument reads behind the call as it read before'; 0 by the template 'total and deterministic' (their statements: YtkcnpbgbgdgkpaaGreatDoorTotals.lean).
  GIVEN WITH THE SEED: the statements are not yours to turn. If you find one false, say at which input.
  Laid BY PROGRAM, IN A SANDBOX (cutbox-rows.mjs): the forced cells as the released guide's own fill.sh prints them over the translation 724d686e12bfbbb6… (all of the seat's roots in one cut). By AI agents, Wed Nov 11 2026. No macro, syntax, notation, axiom, sorry.
-/
import Derived.Test.YtkcnpbgbgdgkpaaGreatDoorChecked
import GoSem.Claim
import GoSem.ClaimJoined
import GoSem.ClaimMapViews
import Derived.JoinedTies
import Derived.KernelRfl
namespace Go.Proofs.YtkcnpbgbgdgkpaaGreatDoor
/- THE CELL 'sum', in the pinned program and in every row, IS THE sha256 OF THE DUMP (.gsa) THAT YtkcnpbgbgdgkpaaGreatDoorProg.lean LOADS. Nothing in Lean hashes anything: it is a label: what it is worth is what the hold of that sum in a sandbox is worth. -/
noncomputable def Tryz.pinned : Pinned := { name := "ytkcnpbgbgdgkpaagreatdoor", sum := "724d686e12bfbbb67658bd284407d8118b390b428e72515577a879c9bed90663", checked := Tryz.checked }
namespace Rows
def none {H : Type} : Left H := { results := [], args := [] }

/- WHAT THE LISTED PACKAGE-LEVEL VARIABLES READ AS WHEN THE CALL BEGINS. Each datum BY PROGRAM (the guide's laid-datum.mjs) off the statement by which the dump's own 'gosem.cut.vars' lays the variable. In a bare row this is a premise. The card (YtkcnpbgbgdgkpaaGreatDoorCards.lean) ties it to the program's text. -/
def laid_errors_errorType {H : Type} : DataW H := .iface "internal/reflectlite.rtype" (.agg [.ptr (.lit (.string [101, 114, 114, 111, 114]))])

/-- 'laws.FnExactReflexiveDual': WHATEVER THE INPUT: true; the input reads as it did. -/
def fnExactReflexiveDualSpec : ChangeSpec := { name := "fnExactReflexiveDual", fn := fun _ => fun
  | [d] => { results := [.lit (.bool true)], args := [d] }
  | _ => none }
def fnExactReflexiveDualRow : OpenClaim := { program := "ytkcnpbgbgdgkpaagreatdoor", sum := "724d686e12bfbbb67658bd284407d8118b390b428e72515577a879c9bed90663", func := "loop.example/toricfans/laws.FnExactReflexiveDual", spec := "fnExactReflexiveDual", inPlace := ["internal/reflectlite.ValueOf", "(internal/reflectlite.Value).Type", "(internal/reflectlite.Value).IsNil", "internal/reflectlite.TypeOf", "(internal/reflectlite.Value).Elem", "(internal/reflectlite.Value).Set"], unfollowed := true, recurses := true, named := ["errors.errorType"], apart := false, laid := [("errors.errorType", laid_errors_errorType)] }
def FnExactReflexiveDualSaid : Prop := fnExactReflexiveDualRow.holds Tryz.pinned (OpenSpec.ofChange fnExactReflexiveDualSpec)

/-- ITS FALSE NEIGHBOUR: 'it returns false'. Refute it at one input. -/
def fnExactReflexiveDualWrong : ChangeSpec := { name := "fnExactReflexiveDual", fn := fun _ => fun
  | [d] => { results := [.lit (.bool false)], args := [d] }
  | _ => none }
def FnExactReflexiveDualWrongFalsely : Prop := fnExactReflexiveDualRow.holds Tryz.pinned (OpenSpec.ofChange fnExactReflexiveDualWrong)

/-- 'laws.FnExactReflexiveTwelve': WHATEVER THE INPUT: true; the input reads as it did. -/
def fnExactReflexiveTwelveSpec : ChangeSpec := { name := "fnExactReflexiveTwelve", fn := fun _ => fun
  | [d] => { results := [.lit (.bool true)], args := [d] }
  | _ => none }
def fnExactReflexiveTwelveRow : OpenClaim := { program := "ytkcnpbgbgdgkpaagreatdoor", sum := "724d686e12bfbbb67658bd284407d8118b390b428e72515577a879c9bed90663", func := "loop.example/toricfans/laws.FnExactReflexiveTwelve", spec := "fnExactReflexiveTwelve", inPlace := ["internal/reflectlite.ValueOf", "(internal/reflectlite.Value).Type", "(internal/reflectlite.Value).IsNil", "internal/reflectlite.TypeOf", "(internal/reflectlite.Value).Elem", "(internal/reflectlite.Value).Set"], unfollowed := true, recurses := true, named := ["errors.errorType"], apart := false, laid := [("errors.errorType", laid_errors_errorType)] }
def FnExactReflexiveTwelveSaid : Prop := fnExactReflexiveTwelveRow.holds Tryz.pinned (OpenSpec.ofChange fnExactReflexiveTwelveSpec)

/-- ITS FALSE NEIGHBOUR: 'it returns false'. Refute it at one input. -/
def fnExactReflexiveTwelveWrong : ChangeSpec := { name := "fnExactReflexiveTwelve", fn := fun _ => fun
  | [d] => { results := [.lit (.bool false)], args := [d] }
  | _ => none }
def FnExactReflexiveTwelveWrongFalsely : Prop := fnExactReflexiveTwelveRow.holds Tryz.pinned (OpenSpec.ofChange fnExactReflexiveTwelveWrong)

/-- 'laws.FnExactReflexiveFan': WHATEVER THE INPUT: true; the input reads as it did. -/
def fnExactReflexiveFanSpec : ChangeSpec := { name := "fnExactReflexiveFan", fn := fun _ => fun
  | [d] => { results := [.lit (.bool true)], args := [d] }
  | _ => none }
def fnExactReflexiveFanRow : OpenClaim := { program := "ytkcnpbgbgdgkpaagreatdoor", sum := "724d686e12bfbbb67658bd284407d8118b390b428e72515577a879c9bed90663", func := "loop.example/toricfans/laws.FnExactReflexiveFan", spec := "fnExactReflexiveFan", inPlace := ["internal/reflectlite.ValueOf", "(internal/reflectlite.Value).Type", "(internal/reflectlite.Value).IsNil", "internal/reflectlite.TypeOf", "(internal/reflectlite.Value).Elem", "(internal/reflectlite.Value).Set"], unfollowed := true, recurses := true, named := ["errors.errorType"], apart := false, laid := [("errors.errorType", laid_errors_errorType)] }
def FnExactReflexiveFanSaid : Prop := fnExactReflexiveFanRow.holds Tryz.pinned (OpenSpec.ofChange fnExactReflexiveFanSpec)

/-- ITS FALSE NEIGHBOUR: 'it returns false'. Refute it at one input. -/
def fnExactReflexiveFanWrong : ChangeSpec := { name := "fnExactReflexiveFan", fn := fun _ => fun
  | [d] => { results := [.lit (.bool false)], args := [d] }
  | _ => none }
def FnExactReflexiveFanWrongFalsely : Prop := fnExactReflexiveFanRow.holds Tryz.pinned (OpenSpec.ofChange fnExactReflexiveFanWrong)

/-- 'laws.FnExactReflexiveNumbers': WHATEVER THE INPUT: true; the input reads as it did. -/
def fnExactReflexiveNumbersSpec : ChangeSpec := { name := "fnExactReflexiveNumbers", fn := fun _ => fun
  | [d] => { results := [.lit (.bool true)], args := [d] }
  | _ => none }
def fnExactReflexiveNumbersRow : OpenClaim := { program := "ytkcnpbgbgdgkpaagreatdoor", sum := "724d686e12bfbbb67658bd284407d8118b390b428e72515577a879c9bed90663", func := "loop.example/toricfans/laws.FnExactReflexiveNumbers", spec := "fnExactReflexiveNumbers", inPlace := ["internal/reflectlite.ValueOf", "(internal/reflectlite.Value).Type", "(internal/reflectlite.Value).IsNil", "internal/reflectlite.TypeOf", "(internal/reflectlite.Value).Elem", "(internal/reflectlite.Value).Set"], unfollowed := true, recurses := true, named := ["errors.errorType"], apart := false, laid := [("errors.errorType", laid_errors_errorType)] }
def FnExactReflexiveNumbersSaid : Prop := fnExactReflexiveNumbersRow.holds Tryz.pinned (OpenSpec.ofChange fnExactReflexiveNumbersSpec)

/-- ITS FALSE NEIGHBOUR: 'it returns false'. Refute it at one input. -/
def fnExactReflexiveNumbersWrong : ChangeSpec := { name := "fnExactReflexiveNumbers", fn := fun _ => fun
  | [d] => { results := [.lit (.bool false)], args := [d] }
  | _ => none }
def FnExactReflexiveNumbersWrongFalsely : Prop := fnExactReflexiveNumbersRow.holds Tryz.pinned (OpenSpec.ofChange fnExactReflexiveNumbersWrong)

/- THE SECOND FORM. 'bulk': how many values and letters a reading holds, each counted each time it is reached (what is shared counts as often as it is met; a slice's spare places count too). A statement '..UptoSaid' is the law's where the arguments, and the package variables that the reading takes, are together of bulk at most 1048576: NARROWER than '..Said'. Prove '..Said' where nothing that the law and all that it calls make is longer than what came in: it says more and counts as full. Else prove '..UptoSaid'. A law counts once. -/
mutual
def uptoBulk {H : Type} : DataW H → Nat
  | .lit (.string bytes) => bytes.length + 1
  | .lit _ => 1
  | .nil => 1
  | .ptr d => uptoBulk d + 1
  | .slice elems spare => uptoBulkAll elems + uptoBulkAll spare + 1
  | .agg parts => uptoBulkAll parts + 1
  | .iface _ d => uptoBulk d + 1
  | .map entries => uptoBulkEntries entries + 1
  | .held _ => 1
def uptoBulkAll {H : Type} : List (DataW H) → Nat
  | [] => 0
  | d :: r => uptoBulk d + uptoBulkAll r
def uptoBulkEntries {H : Type} : List (Lit × DataW H) → Nat
  | [] => 0
  | x :: r => uptoBulkEntry x + uptoBulkEntries r
def uptoBulkEntry {H : Type} : Lit × DataW H → Nat
  | (.string bytes, d) => bytes.length + uptoBulk d + 1
  | (_, d) => uptoBulk d + 1
 end
def uptoSmall : (H : Type) → List (DataW H) → Bool := fun _ ds => decide (uptoBulkAll ds ≤ 1048576)
def OpenSpec.upto (s : _root_.Go.ChangeSpec) : _root_.Go.OpenSpec := { _root_.Go.OpenSpec.ofChange s with cond := some uptoSmall }

/-- 'laws.FnExactReflexiveDual', WHERE WHAT IT READS IS OF BULK AT MOST 1048576: true; the input reads as it did. -/
def fnExactReflexiveDualUptoRow : OpenClaim := { program := "ytkcnpbgbgdgkpaagreatdoor", sum := "724d686e12bfbbb67658bd284407d8118b390b428e72515577a879c9bed90663", func := "loop.example/toricfans/laws.FnExactReflexiveDual", spec := "fnExactReflexiveDual", inPlace := ["internal/reflectlite.ValueOf", "(internal/reflectlite.Value).Type", "(internal/reflectlite.Value).IsNil", "internal/reflectlite.TypeOf", "(internal/reflectlite.Value).Elem", "(internal/reflectlite.Value).Set"], unfollowed := true, recurses := true, named := ["errors.errorType"], apart := false, laid := [("errors.errorType", laid_errors_errorType)], narrowed := true }
def FnExactReflexiveDualUptoSaid : Prop := fnExactReflexiveDualUptoRow.holds Tryz.pinned (OpenSpec.upto fnExactReflexiveDualSpec)

/-- 'laws.FnExactReflexiveTwelve', WHERE WHAT IT READS IS OF BULK AT MOST 1048576: true; the input reads as it did. -/
def fnExactReflexiveTwelveUptoRow : OpenClaim := { program := "ytkcnpbgbgdgkpaagreatdoor", sum := "724d686e12bfbbb67658bd284407d8118b390b428e72515577a879c9bed90663", func := "loop.example/toricfans/laws.FnExactReflexiveTwelve", spec := "fnExactReflexiveTwelve", inPlace := ["internal/reflectlite.ValueOf", "(internal/reflectlite.Value).Type", "(internal/reflectlite.Value).IsNil", "internal/reflectlite.TypeOf", "(internal/reflectlite.Value).Elem", "(internal/reflectlite.Value).Set"], unfollowed := true, recurses := true, named := ["errors.errorType"], apart := false, laid := [("errors.errorType", laid_errors_errorType)], narrowed := true }
def FnExactReflexiveTwelveUptoSaid : Prop := fnExactReflexiveTwelveUptoRow.holds Tryz.pinned (OpenSpec.upto fnExactReflexiveTwelveSpec)

/-- 'laws.FnExactReflexiveFan', WHERE WHAT IT READS IS OF BULK AT MOST 1048576: true; the input reads as it did. -/
def fnExactReflexiveFanUptoRow : OpenClaim := { program := "ytkcnpbgbgdgkpaagreatdoor", sum := "724d686e12bfbbb67658bd284407d8118b390b428e72515577a879c9bed90663", func := "loop.example/toricfans/laws.FnExactReflexiveFan", spec := "fnExactReflexiveFan", inPlace := ["internal/reflectlite.ValueOf", "(internal/reflectlite.Value).Type", "(internal/reflectlite.Value).IsNil", "internal/reflectlite.TypeOf", "(internal/reflectlite.Value).Elem", "(internal/reflectlite.Value).Set"], unfollowed := true, recurses := true, named := ["errors.errorType"], apart := false, laid := [("errors.errorType", laid_errors_errorType)], narrowed := true }
def FnExactReflexiveFanUptoSaid : Prop := fnExactReflexiveFanUptoRow.holds Tryz.pinned (OpenSpec.upto fnExactReflexiveFanSpec)

/-- 'laws.FnExactReflexiveNumbers', WHERE WHAT IT READS IS OF BULK AT MOST 1048576: true; the input reads as it did. -/
def fnExactReflexiveNumbersUptoRow : OpenClaim := { program := "ytkcnpbgbgdgkpaagreatdoor", sum := "724d686e12bfbbb67658bd284407d8118b390b428e72515577a879c9bed90663", func := "loop.example/toricfans/laws.FnExactReflexiveNumbers", spec := "fnExactReflexiveNumbers", inPlace := ["internal/reflectlite.ValueOf", "(internal/reflectlite.Value).Type", "(internal/reflectlite.Value).IsNil", "internal/reflectlite.TypeOf", "(internal/reflectlite.Value).Elem", "(internal/reflectlite.Value).Set"], unfollowed := true, recurses := true, named := ["errors.errorType"], apart := false, laid := [("errors.errorType", laid_errors_errorType)], narrowed := true }
def FnExactReflexiveNumbersUptoSaid : Prop := fnExactReflexiveNumbersUptoRow.holds Tryz.pinned (OpenSpec.upto fnExactReflexiveNumbersSpec)

end Rows
end Go.Proofs.YtkcnpbgbgdgkpaaGreatDoor
