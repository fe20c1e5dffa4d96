/-
  NARROWER THAN 'FOR EVERY INPUT', by the rows' own cells (each row's printed sentence says how): FnReflexive: laid · FnReflexiveDual: laid · FnTwelve: laid · FnReflexiveFan: laid · FnReflexiveNumbers: laid.
  DERIVED. THE GIVEN ROWS OF THIS SEAT. 5 by the template 'for every input the law returns true; each argument reads behind the call as it read before'; 0 by the template 'total and deterministic' (their statements: YtgaeibibeekclabGreatDoorTotals.lean).
  GIVEN WITH THE SEED: the statements are not yours to turn. If you find one false, say at which input.
  Laid BY PROGRAM, IN A SANDBOX (cutbox-rows.mjs): the forced cells as the released guide's own fill.sh prints them over the translation 5fcc9ec126d70e85… (all of the seat's roots in one cut). By AI agents, Wed Nov 11 2026. No macro, syntax, notation, axiom, sorry.
-/
import Derived.Test.YtgaeibibeekclabGreatDoorChecked
import GoSem.Claim
import GoSem.ClaimJoined
import GoSem.ClaimMapViews
import Derived.JoinedTies
import Derived.KernelRfl
namespace Go.Proofs.YtgaeibibeekclabGreatDoor
/- THE CELL 'sum', in the pinned program and in every row, IS THE sha256 OF THE DUMP (.gsa) THAT YtgaeibibeekclabGreatDoorProg.lean LOADS. Nothing in Lean hashes anything: it is a label: what it is worth is what the hold of that sum in a sandbox is worth. -/
noncomputable def Tryz.pinned : Pinned := { name := "ytgaeibibeekclabgreatdoor", sum := "5fcc9ec126d70e8590f5dc9371e37019f734b27cd6dcdaa503ce0947e44be62d", checked := Tryz.checked }
namespace Rows
def none {H : Type} : Left H := { results := [], args := [] }

/- WHAT THE LISTED PACKAGE-LEVEL VARIABLES READ AS WHEN THE CALL BEGINS. Each datum BY PROGRAM (the guide's laid-datum.mjs) off the statement by which the dump's own 'gosem.cut.vars' lays the variable. In a bare row this is a premise. The card (YtgaeibibeekclabGreatDoorCards.lean) ties it to the program's text. -/
def laid_errors_errorType {H : Type} : DataW H := .iface "internal/reflectlite.rtype" (.agg [.ptr (.lit (.string [101, 114, 114, 111, 114]))])

/-- 'laws.FnReflexive': WHATEVER THE INPUT: true; the input reads as it did. -/
def fnReflexiveSpec : ChangeSpec := { name := "fnReflexive", fn := fun _ => fun
  | [d] => { results := [.lit (.bool true)], args := [d] }
  | _ => none }
def fnReflexiveRow : OpenClaim := { program := "ytgaeibibeekclabgreatdoor", sum := "5fcc9ec126d70e8590f5dc9371e37019f734b27cd6dcdaa503ce0947e44be62d", func := "loop.example/toricfans/laws.FnReflexive", spec := "fnReflexive", inPlace := ["internal/reflectlite.ValueOf", "(internal/reflectlite.Value).Type", "(internal/reflectlite.Value).IsNil", "internal/reflectlite.TypeOf", "(internal/reflectlite.Value).Elem", "(internal/reflectlite.Value).Set"], unfollowed := true, recurses := true, named := ["errors.errorType"], apart := false, laid := [("errors.errorType", laid_errors_errorType)] }
def FnReflexiveSaid : Prop := fnReflexiveRow.holds Tryz.pinned (OpenSpec.ofChange fnReflexiveSpec)

/-- ITS FALSE NEIGHBOUR: 'it returns false'. Refute it at one input. -/
def fnReflexiveWrong : ChangeSpec := { name := "fnReflexive", fn := fun _ => fun
  | [d] => { results := [.lit (.bool false)], args := [d] }
  | _ => none }
def FnReflexiveWrongFalsely : Prop := fnReflexiveRow.holds Tryz.pinned (OpenSpec.ofChange fnReflexiveWrong)

/-- 'laws.FnReflexiveDual': WHATEVER THE INPUT: true; the input reads as it did. -/
def fnReflexiveDualSpec : ChangeSpec := { name := "fnReflexiveDual", fn := fun _ => fun
  | [d] => { results := [.lit (.bool true)], args := [d] }
  | _ => none }
def fnReflexiveDualRow : OpenClaim := { program := "ytgaeibibeekclabgreatdoor", sum := "5fcc9ec126d70e8590f5dc9371e37019f734b27cd6dcdaa503ce0947e44be62d", func := "loop.example/toricfans/laws.FnReflexiveDual", spec := "fnReflexiveDual", inPlace := ["internal/reflectlite.ValueOf", "(internal/reflectlite.Value).Type", "(internal/reflectlite.Value).IsNil", "internal/reflectlite.TypeOf", "(internal/reflectlite.Value).Elem", "(internal/reflectlite.Value).Set"], unfollowed := true, recurses := true, named := ["errors.errorType"], apart := false, laid := [("errors.errorType", laid_errors_errorType)] }
def FnReflexiveDualSaid : Prop := fnReflexiveDualRow.holds Tryz.pinned (OpenSpec.ofChange fnReflexiveDualSpec)

/-- ITS FALSE NEIGHBOUR: 'it returns false'. Refute it at one input. -/
def fnReflexiveDualWrong : ChangeSpec := { name := "fnReflexiveDual", fn := fun _ => fun
  | [d] => { results := [.lit (.bool false)], args := [d] }
  | _ => none }
def FnReflexiveDualWrongFalsely : Prop := fnReflexiveDualRow.holds Tryz.pinned (OpenSpec.ofChange fnReflexiveDualWrong)

/-- 'laws.FnTwelve': WHATEVER THE INPUT: true; the input reads as it did. -/
def fnTwelveSpec : ChangeSpec := { name := "fnTwelve", fn := fun _ => fun
  | [d] => { results := [.lit (.bool true)], args := [d] }
  | _ => none }
def fnTwelveRow : OpenClaim := { program := "ytgaeibibeekclabgreatdoor", sum := "5fcc9ec126d70e8590f5dc9371e37019f734b27cd6dcdaa503ce0947e44be62d", func := "loop.example/toricfans/laws.FnTwelve", spec := "fnTwelve", inPlace := ["internal/reflectlite.ValueOf", "(internal/reflectlite.Value).Type", "(internal/reflectlite.Value).IsNil", "internal/reflectlite.TypeOf", "(internal/reflectlite.Value).Elem", "(internal/reflectlite.Value).Set"], unfollowed := true, recurses := true, named := ["errors.errorType"], apart := false, laid := [("errors.errorType", laid_errors_errorType)] }
def FnTwelveSaid : Prop := fnTwelveRow.holds Tryz.pinned (OpenSpec.ofChange fnTwelveSpec)

/-- ITS FALSE NEIGHBOUR: 'it returns false'. Refute it at one input. -/
def fnTwelveWrong : ChangeSpec := { name := "fnTwelve", fn := fun _ => fun
  | [d] => { results := [.lit (.bool false)], args := [d] }
  | _ => none }
def FnTwelveWrongFalsely : Prop := fnTwelveRow.holds Tryz.pinned (OpenSpec.ofChange fnTwelveWrong)

/-- 'laws.FnReflexiveFan': WHATEVER THE INPUT: true; the input reads as it did. -/
def fnReflexiveFanSpec : ChangeSpec := { name := "fnReflexiveFan", fn := fun _ => fun
  | [d] => { results := [.lit (.bool true)], args := [d] }
  | _ => none }
def fnReflexiveFanRow : OpenClaim := { program := "ytgaeibibeekclabgreatdoor", sum := "5fcc9ec126d70e8590f5dc9371e37019f734b27cd6dcdaa503ce0947e44be62d", func := "loop.example/toricfans/laws.FnReflexiveFan", spec := "fnReflexiveFan", inPlace := ["internal/reflectlite.ValueOf", "(internal/reflectlite.Value).Type", "(internal/reflectlite.Value).IsNil", "internal/reflectlite.TypeOf", "(internal/reflectlite.Value).Elem", "(internal/reflectlite.Value).Set"], unfollowed := true, recurses := true, named := ["errors.errorType"], apart := false, laid := [("errors.errorType", laid_errors_errorType)] }
def FnReflexiveFanSaid : Prop := fnReflexiveFanRow.holds Tryz.pinned (OpenSpec.ofChange fnReflexiveFanSpec)

/-- ITS FALSE NEIGHBOUR: 'it returns false'. Refute it at one input. -/
def fnReflexiveFanWrong : ChangeSpec := { name := "fnReflexiveFan", fn := fun _ => fun
  | [d] => { results := [.lit (.bool false)], args := [d] }
  | _ => none }
def FnReflexiveFanWrongFalsely : Prop := fnReflexiveFanRow.holds Tryz.pinned (OpenSpec.ofChange fnReflexiveFanWrong)

/-- 'laws.FnReflexiveNumbers': WHATEVER THE INPUT: true; the input reads as it did. -/
def fnReflexiveNumbersSpec : ChangeSpec := { name := "fnReflexiveNumbers", fn := fun _ => fun
  | [d] => { results := [.lit (.bool true)], args := [d] }
  | _ => none }
def fnReflexiveNumbersRow : OpenClaim := { program := "ytgaeibibeekclabgreatdoor", sum := "5fcc9ec126d70e8590f5dc9371e37019f734b27cd6dcdaa503ce0947e44be62d", func := "loop.example/toricfans/laws.FnReflexiveNumbers", spec := "fnReflexiveNumbers", inPlace := ["internal/reflectlite.ValueOf", "(internal/reflectlite.Value).Type", "(internal/reflectlite.Value).IsNil", "internal/reflectlite.TypeOf", "(internal/reflectlite.Value).Elem", "(internal/reflectlite.Value).Set"], unfollowed := true, recurses := true, named := ["errors.errorType"], apart := false, laid := [("errors.errorType", laid_errors_errorType)] }
def FnReflexiveNumbersSaid : Prop := fnReflexiveNumbersRow.holds Tryz.pinned (OpenSpec.ofChange fnReflexiveNumbersSpec)

/-- ITS FALSE NEIGHBOUR: 'it returns false'. Refute it at one input. -/
def fnReflexiveNumbersWrong : ChangeSpec := { name := "fnReflexiveNumbers", fn := fun _ => fun
  | [d] => { results := [.lit (.bool false)], args := [d] }
  | _ => none }
def FnReflexiveNumbersWrongFalsely : Prop := fnReflexiveNumbersRow.holds Tryz.pinned (OpenSpec.ofChange fnReflexiveNumbersWrong)

/- THE SECOND FORM. 'bulk': how many values and letters a reading holds, each counted each time it is reached (what is shared counts as often as it is met; a slice's spare places count too). A statement '..UptoSaid' is the law's where the arguments, and the package variables that the reading takes, are together of bulk at most 1048576: NARROWER than '..Said'. Prove '..Said' where nothing that the law and all that it calls make is longer than what came in: it says more and counts as full. Else prove '..UptoSaid'. A law counts once. -/
mutual
def uptoBulk {H : Type} : DataW H → Nat
  | .lit (.string bytes) => bytes.length + 1
  | .lit _ => 1
  | .nil => 1
  | .ptr d => uptoBulk d + 1
  | .slice elems spare => uptoBulkAll elems + uptoBulkAll spare + 1
  | .agg parts => uptoBulkAll parts + 1
  | .iface _ d => uptoBulk d + 1
  | .map entries => uptoBulkEntries entries + 1
  | .held _ => 1
def uptoBulkAll {H : Type} : List (DataW H) → Nat
  | [] => 0
  | d :: r => uptoBulk d + uptoBulkAll r
def uptoBulkEntries {H : Type} : List (Lit × DataW H) → Nat
  | [] => 0
  | x :: r => uptoBulkEntry x + uptoBulkEntries r
def uptoBulkEntry {H : Type} : Lit × DataW H → Nat
  | (.string bytes, d) => bytes.length + uptoBulk d + 1
  | (_, d) => uptoBulk d + 1
 end
def uptoSmall : (H : Type) → List (DataW H) → Bool := fun _ ds => decide (uptoBulkAll ds ≤ 1048576)
def OpenSpec.upto (s : _root_.Go.ChangeSpec) : _root_.Go.OpenSpec := { _root_.Go.OpenSpec.ofChange s with cond := some uptoSmall }

/-- 'laws.FnReflexive', WHERE WHAT IT READS IS OF BULK AT MOST 1048576: true; the input reads as it did. -/
def fnReflexiveUptoRow : OpenClaim := { program := "ytgaeibibeekclabgreatdoor", sum := "5fcc9ec126d70e8590f5dc9371e37019f734b27cd6dcdaa503ce0947e44be62d", func := "loop.example/toricfans/laws.FnReflexive", spec := "fnReflexive", inPlace := ["internal/reflectlite.ValueOf", "(internal/reflectlite.Value).Type", "(internal/reflectlite.Value).IsNil", "internal/reflectlite.TypeOf", "(internal/reflectlite.Value).Elem", "(internal/reflectlite.Value).Set"], unfollowed := true, recurses := true, named := ["errors.errorType"], apart := false, laid := [("errors.errorType", laid_errors_errorType)], narrowed := true }
def FnReflexiveUptoSaid : Prop := fnReflexiveUptoRow.holds Tryz.pinned (OpenSpec.upto fnReflexiveSpec)

/-- 'laws.FnReflexiveDual', WHERE WHAT IT READS IS OF BULK AT MOST 1048576: true; the input reads as it did. -/
def fnReflexiveDualUptoRow : OpenClaim := { program := "ytgaeibibeekclabgreatdoor", sum := "5fcc9ec126d70e8590f5dc9371e37019f734b27cd6dcdaa503ce0947e44be62d", func := "loop.example/toricfans/laws.FnReflexiveDual", spec := "fnReflexiveDual", inPlace := ["internal/reflectlite.ValueOf", "(internal/reflectlite.Value).Type", "(internal/reflectlite.Value).IsNil", "internal/reflectlite.TypeOf", "(internal/reflectlite.Value).Elem", "(internal/reflectlite.Value).Set"], unfollowed := true, recurses := true, named := ["errors.errorType"], apart := false, laid := [("errors.errorType", laid_errors_errorType)], narrowed := true }
def FnReflexiveDualUptoSaid : Prop := fnReflexiveDualUptoRow.holds Tryz.pinned (OpenSpec.upto fnReflexiveDualSpec)

/-- 'laws.FnTwelve', WHERE WHAT IT READS IS OF BULK AT MOST 1048576: true; the input reads as it did. -/
def fnTwelveUptoRow : OpenClaim := { program := "ytgaeibibeekclabgreatdoor", sum := "5fcc9ec126d70e8590f5dc9371e37019f734b27cd6dcdaa503ce0947e44be62d", func := "loop.example/toricfans/laws.FnTwelve", spec := "fnTwelve", inPlace := ["internal/reflectlite.ValueOf", "(internal/reflectlite.Value).Type", "(internal/reflectlite.Value).IsNil", "internal/reflectlite.TypeOf", "(internal/reflectlite.Value).Elem", "(internal/reflectlite.Value).Set"], unfollowed := true, recurses := true, named := ["errors.errorType"], apart := false, laid := [("errors.errorType", laid_errors_errorType)], narrowed := true }
def FnTwelveUptoSaid : Prop := fnTwelveUptoRow.holds Tryz.pinned (OpenSpec.upto fnTwelveSpec)

/-- 'laws.FnReflexiveFan', WHERE WHAT IT READS IS OF BULK AT MOST 1048576: true; the input reads as it did. -/
def fnReflexiveFanUptoRow : OpenClaim := { program := "ytgaeibibeekclabgreatdoor", sum := "5fcc9ec126d70e8590f5dc9371e37019f734b27cd6dcdaa503ce0947e44be62d", func := "loop.example/toricfans/laws.FnReflexiveFan", spec := "fnReflexiveFan", inPlace := ["internal/reflectlite.ValueOf", "(internal/reflectlite.Value).Type", "(internal/reflectlite.Value).IsNil", "internal/reflectlite.TypeOf", "(internal/reflectlite.Value).Elem", "(internal/reflectlite.Value).Set"], unfollowed := true, recurses := true, named := ["errors.errorType"], apart := false, laid := [("errors.errorType", laid_errors_errorType)], narrowed := true }
def FnReflexiveFanUptoSaid : Prop := fnReflexiveFanUptoRow.holds Tryz.pinned (OpenSpec.upto fnReflexiveFanSpec)

/-- 'laws.FnReflexiveNumbers', WHERE WHAT IT READS IS OF BULK AT MOST 1048576: true; the input reads as it did. -/
def fnReflexiveNumbersUptoRow : OpenClaim := { program := "ytgaeibibeekclabgreatdoor", sum := "5fcc9ec126d70e8590f5dc9371e37019f734b27cd6dcdaa503ce0947e44be62d", func := "loop.example/toricfans/laws.FnReflexiveNumbers", spec := "fnReflexiveNumbers", inPlace := ["internal/reflectlite.ValueOf", "(internal/reflectlite.Value).Type", "(internal/reflectlite.Value).IsNil", "internal/reflectlite.TypeOf", "(internal/reflectlite.Value).Elem", "(internal/reflectlite.Value).Set"], unfollowed := true, recurses := true, named := ["errors.errorType"], apart := false, laid := [("errors.errorType", laid_errors_errorType)], narrowed := true }
def FnReflexiveNumbersUptoSaid : Prop := fnReflexiveNumbersUptoRow.holds Tryz.pinned (OpenSpec.upto fnReflexiveNumbersSpec)

end Rows
end Go.Proofs.YtgaeibibeekclabGreatDoor
