/-
  NARROWER THAN 'FOR EVERY INPUT', by the rows' own cells (each row's printed sentence says how): FnPolygonSum: laid · FnPolygonTimes: laid · FnPolygon: laid · FnHull: laid · FnPolygonHas: laid · FnExactPolygonSame: laid.
  DERIVED. THE GIVEN ROWS OF THIS SEAT. 6 by the template 'for every input the law returns true; each argument reads behind the call as it read before'; 0 by the template 'total and deterministic' (their statements: YtgaeibibeekclaaDoorTotals.lean).
  GIVEN WITH THE SEED: the statements are not yours to turn. If you find one false, say at which input.
  Laid BY PROGRAM, IN A SANDBOX (cutbox-rows.mjs): the forced cells as the released guide's own fill.sh prints them over the translation e9247b7e24e72883… (all of the seat's roots in one cut). By AI agents, Wed Nov 11 2026. No macro, syntax, notation, axiom, sorry.
-/
import Derived.Test.YtgaeibibeekclaaDoorChecked
import GoSem.Claim
import GoSem.ClaimJoined
import GoSem.ClaimMapViews
import Derived.JoinedTies
import Derived.KernelRfl
namespace Go.Proofs.YtgaeibibeekclaaDoor
/- THE CELL 'sum', in the pinned program and in every row, IS THE sha256 OF THE DUMP (.gsa) THAT YtgaeibibeekclaaDoorProg.lean LOADS. Nothing in Lean hashes anything: it is a label: what it is worth is what the hold of that sum in a sandbox is worth. -/
noncomputable def Tryd.pinned : Pinned := { name := "ytgaeibibeekclaadoor", sum := "e9247b7e24e7288349117d056320a7c8e4402c0fccaedb17ea3593cb64c08045", checked := Tryd.checked }
namespace Rows
def none {H : Type} : Left H := { results := [], args := [] }

/- WHAT THE LISTED PACKAGE-LEVEL VARIABLES READ AS WHEN THE CALL BEGINS. Each datum BY PROGRAM (the guide's laid-datum.mjs) off the statement by which the dump's own 'gosem.cut.vars' lays the variable. In a bare row this is a premise. The card (YtgaeibibeekclaaDoorCards.lean) ties it to the program's text. -/
def laid_errors_errorType {H : Type} : DataW H := .iface "internal/reflectlite.rtype" (.agg [.ptr (.lit (.string [101, 114, 114, 111, 114]))])

/-- 'laws.FnPolygonSum': WHATEVER THE INPUT: true; the input reads as it did. -/
def fnPolygonSumSpec : ChangeSpec := { name := "fnPolygonSum", fn := fun _ => fun
  | [d] => { results := [.lit (.bool true)], args := [d] }
  | _ => none }
def fnPolygonSumRow : OpenClaim := { program := "ytgaeibibeekclaadoor", sum := "e9247b7e24e7288349117d056320a7c8e4402c0fccaedb17ea3593cb64c08045", func := "loop.example/toricfans/laws.FnPolygonSum", spec := "fnPolygonSum", inPlace := ["internal/reflectlite.ValueOf", "(internal/reflectlite.Value).Type", "(internal/reflectlite.Value).IsNil", "internal/reflectlite.TypeOf", "(internal/reflectlite.Value).Elem", "(internal/reflectlite.Value).Set"], unfollowed := true, recurses := true, named := ["errors.errorType"], apart := false, laid := [("errors.errorType", laid_errors_errorType)] }
def FnPolygonSumSaid : Prop := fnPolygonSumRow.holds Tryd.pinned (OpenSpec.ofChange fnPolygonSumSpec)

/-- ITS FALSE NEIGHBOUR: 'it returns false'. Refute it at one input. -/
def fnPolygonSumWrong : ChangeSpec := { name := "fnPolygonSum", fn := fun _ => fun
  | [d] => { results := [.lit (.bool false)], args := [d] }
  | _ => none }
def FnPolygonSumWrongFalsely : Prop := fnPolygonSumRow.holds Tryd.pinned (OpenSpec.ofChange fnPolygonSumWrong)

/-- 'laws.FnPolygonTimes': WHATEVER THE INPUT: true; the input reads as it did. -/
def fnPolygonTimesSpec : ChangeSpec := { name := "fnPolygonTimes", fn := fun _ => fun
  | [d] => { results := [.lit (.bool true)], args := [d] }
  | _ => none }
def fnPolygonTimesRow : OpenClaim := { program := "ytgaeibibeekclaadoor", sum := "e9247b7e24e7288349117d056320a7c8e4402c0fccaedb17ea3593cb64c08045", func := "loop.example/toricfans/laws.FnPolygonTimes", spec := "fnPolygonTimes", inPlace := ["internal/reflectlite.ValueOf", "(internal/reflectlite.Value).Type", "(internal/reflectlite.Value).IsNil", "internal/reflectlite.TypeOf", "(internal/reflectlite.Value).Elem", "(internal/reflectlite.Value).Set"], unfollowed := true, recurses := true, named := ["errors.errorType"], apart := false, laid := [("errors.errorType", laid_errors_errorType)] }
def FnPolygonTimesSaid : Prop := fnPolygonTimesRow.holds Tryd.pinned (OpenSpec.ofChange fnPolygonTimesSpec)

/-- ITS FALSE NEIGHBOUR: 'it returns false'. Refute it at one input. -/
def fnPolygonTimesWrong : ChangeSpec := { name := "fnPolygonTimes", fn := fun _ => fun
  | [d] => { results := [.lit (.bool false)], args := [d] }
  | _ => none }
def FnPolygonTimesWrongFalsely : Prop := fnPolygonTimesRow.holds Tryd.pinned (OpenSpec.ofChange fnPolygonTimesWrong)

/-- 'laws.FnPolygon': WHATEVER THE INPUT: true; the input reads as it did. -/
def fnPolygonSpec : ChangeSpec := { name := "fnPolygon", fn := fun _ => fun
  | [d] => { results := [.lit (.bool true)], args := [d] }
  | _ => none }
def fnPolygonRow : OpenClaim := { program := "ytgaeibibeekclaadoor", sum := "e9247b7e24e7288349117d056320a7c8e4402c0fccaedb17ea3593cb64c08045", func := "loop.example/toricfans/laws.FnPolygon", spec := "fnPolygon", inPlace := ["internal/reflectlite.ValueOf", "(internal/reflectlite.Value).Type", "(internal/reflectlite.Value).IsNil", "internal/reflectlite.TypeOf", "(internal/reflectlite.Value).Elem", "(internal/reflectlite.Value).Set"], unfollowed := true, recurses := true, named := ["errors.errorType"], apart := false, laid := [("errors.errorType", laid_errors_errorType)] }
def FnPolygonSaid : Prop := fnPolygonRow.holds Tryd.pinned (OpenSpec.ofChange fnPolygonSpec)

/-- ITS FALSE NEIGHBOUR: 'it returns false'. Refute it at one input. -/
def fnPolygonWrong : ChangeSpec := { name := "fnPolygon", fn := fun _ => fun
  | [d] => { results := [.lit (.bool false)], args := [d] }
  | _ => none }
def FnPolygonWrongFalsely : Prop := fnPolygonRow.holds Tryd.pinned (OpenSpec.ofChange fnPolygonWrong)

/-- 'laws.FnHull': WHATEVER THE INPUT: true; the input reads as it did. -/
def fnHullSpec : ChangeSpec := { name := "fnHull", fn := fun _ => fun
  | [d] => { results := [.lit (.bool true)], args := [d] }
  | _ => none }
def fnHullRow : OpenClaim := { program := "ytgaeibibeekclaadoor", sum := "e9247b7e24e7288349117d056320a7c8e4402c0fccaedb17ea3593cb64c08045", func := "loop.example/toricfans/laws.FnHull", spec := "fnHull", inPlace := ["internal/reflectlite.ValueOf", "(internal/reflectlite.Value).Type", "(internal/reflectlite.Value).IsNil", "internal/reflectlite.TypeOf", "(internal/reflectlite.Value).Elem", "(internal/reflectlite.Value).Set"], unfollowed := true, recurses := true, named := ["errors.errorType"], apart := false, laid := [("errors.errorType", laid_errors_errorType)] }
def FnHullSaid : Prop := fnHullRow.holds Tryd.pinned (OpenSpec.ofChange fnHullSpec)

/-- ITS FALSE NEIGHBOUR: 'it returns false'. Refute it at one input. -/
def fnHullWrong : ChangeSpec := { name := "fnHull", fn := fun _ => fun
  | [d] => { results := [.lit (.bool false)], args := [d] }
  | _ => none }
def FnHullWrongFalsely : Prop := fnHullRow.holds Tryd.pinned (OpenSpec.ofChange fnHullWrong)

/-- 'laws.FnPolygonHas': WHATEVER THE INPUT: true; the input reads as it did. -/
def fnPolygonHasSpec : ChangeSpec := { name := "fnPolygonHas", fn := fun _ => fun
  | [d] => { results := [.lit (.bool true)], args := [d] }
  | _ => none }
def fnPolygonHasRow : OpenClaim := { program := "ytgaeibibeekclaadoor", sum := "e9247b7e24e7288349117d056320a7c8e4402c0fccaedb17ea3593cb64c08045", func := "loop.example/toricfans/laws.FnPolygonHas", spec := "fnPolygonHas", inPlace := ["internal/reflectlite.ValueOf", "(internal/reflectlite.Value).Type", "(internal/reflectlite.Value).IsNil", "internal/reflectlite.TypeOf", "(internal/reflectlite.Value).Elem", "(internal/reflectlite.Value).Set"], unfollowed := true, recurses := true, named := ["errors.errorType"], apart := false, laid := [("errors.errorType", laid_errors_errorType)] }
def FnPolygonHasSaid : Prop := fnPolygonHasRow.holds Tryd.pinned (OpenSpec.ofChange fnPolygonHasSpec)

/-- ITS FALSE NEIGHBOUR: 'it returns false'. Refute it at one input. -/
def fnPolygonHasWrong : ChangeSpec := { name := "fnPolygonHas", fn := fun _ => fun
  | [d] => { results := [.lit (.bool false)], args := [d] }
  | _ => none }
def FnPolygonHasWrongFalsely : Prop := fnPolygonHasRow.holds Tryd.pinned (OpenSpec.ofChange fnPolygonHasWrong)

/-- 'laws.FnExactPolygonSame': WHATEVER THE INPUT: true; the input reads as it did. -/
def fnExactPolygonSameSpec : ChangeSpec := { name := "fnExactPolygonSame", fn := fun _ => fun
  | [d1, d2] => { results := [.lit (.bool true)], args := [d1, d2] }
  | _ => none }
def fnExactPolygonSameRow : OpenClaim := { program := "ytgaeibibeekclaadoor", sum := "e9247b7e24e7288349117d056320a7c8e4402c0fccaedb17ea3593cb64c08045", func := "loop.example/toricfans/laws.FnExactPolygonSame", spec := "fnExactPolygonSame", inPlace := ["internal/reflectlite.ValueOf", "(internal/reflectlite.Value).Type", "(internal/reflectlite.Value).IsNil", "internal/reflectlite.TypeOf", "(internal/reflectlite.Value).Elem", "(internal/reflectlite.Value).Set"], unfollowed := true, recurses := true, named := ["errors.errorType"], apart := false, laid := [("errors.errorType", laid_errors_errorType)] }
def FnExactPolygonSameSaid : Prop := fnExactPolygonSameRow.holds Tryd.pinned (OpenSpec.ofChange fnExactPolygonSameSpec)

/-- ITS FALSE NEIGHBOUR: 'it returns false'. Refute it at one input. -/
def fnExactPolygonSameWrong : ChangeSpec := { name := "fnExactPolygonSame", fn := fun _ => fun
  | [d1, d2] => { results := [.lit (.bool false)], args := [d1, d2] }
  | _ => none }
def FnExactPolygonSameWrongFalsely : Prop := fnExactPolygonSameRow.holds Tryd.pinned (OpenSpec.ofChange fnExactPolygonSameWrong)

/- THE SECOND FORM. 'bulk': how many values and letters a reading holds, each counted each time it is reached (what is shared counts as often as it is met; a slice's spare places count too). A statement '..UptoSaid' is the law's where the arguments, and the package variables that the reading takes, are together of bulk at most 1048576: NARROWER than '..Said'. Prove '..Said' where nothing that the law and all that it calls make is longer than what came in: it says more and counts as full. Else prove '..UptoSaid'. A law counts once. -/
mutual
def uptoBulk {H : Type} : DataW H → Nat
  | .lit (.string bytes) => bytes.length + 1
  | .lit _ => 1
  | .nil => 1
  | .ptr d => uptoBulk d + 1
  | .slice elems spare => uptoBulkAll elems + uptoBulkAll spare + 1
  | .agg parts => uptoBulkAll parts + 1
  | .iface _ d => uptoBulk d + 1
  | .map entries => uptoBulkEntries entries + 1
  | .held _ => 1
def uptoBulkAll {H : Type} : List (DataW H) → Nat
  | [] => 0
  | d :: r => uptoBulk d + uptoBulkAll r
def uptoBulkEntries {H : Type} : List (Lit × DataW H) → Nat
  | [] => 0
  | x :: r => uptoBulkEntry x + uptoBulkEntries r
def uptoBulkEntry {H : Type} : Lit × DataW H → Nat
  | (.string bytes, d) => bytes.length + uptoBulk d + 1
  | (_, d) => uptoBulk d + 1
 end
def uptoSmall : (H : Type) → List (DataW H) → Bool := fun _ ds => decide (uptoBulkAll ds ≤ 1048576)
def OpenSpec.upto (s : _root_.Go.ChangeSpec) : _root_.Go.OpenSpec := { _root_.Go.OpenSpec.ofChange s with cond := some uptoSmall }

/-- 'laws.FnPolygonSum', WHERE WHAT IT READS IS OF BULK AT MOST 1048576: true; the input reads as it did. -/
def fnPolygonSumUptoRow : OpenClaim := { program := "ytgaeibibeekclaadoor", sum := "e9247b7e24e7288349117d056320a7c8e4402c0fccaedb17ea3593cb64c08045", func := "loop.example/toricfans/laws.FnPolygonSum", spec := "fnPolygonSum", inPlace := ["internal/reflectlite.ValueOf", "(internal/reflectlite.Value).Type", "(internal/reflectlite.Value).IsNil", "internal/reflectlite.TypeOf", "(internal/reflectlite.Value).Elem", "(internal/reflectlite.Value).Set"], unfollowed := true, recurses := true, named := ["errors.errorType"], apart := false, laid := [("errors.errorType", laid_errors_errorType)], narrowed := true }
def FnPolygonSumUptoSaid : Prop := fnPolygonSumUptoRow.holds Tryd.pinned (OpenSpec.upto fnPolygonSumSpec)

/-- 'laws.FnPolygonTimes', WHERE WHAT IT READS IS OF BULK AT MOST 1048576: true; the input reads as it did. -/
def fnPolygonTimesUptoRow : OpenClaim := { program := "ytgaeibibeekclaadoor", sum := "e9247b7e24e7288349117d056320a7c8e4402c0fccaedb17ea3593cb64c08045", func := "loop.example/toricfans/laws.FnPolygonTimes", spec := "fnPolygonTimes", inPlace := ["internal/reflectlite.ValueOf", "(internal/reflectlite.Value).Type", "(internal/reflectlite.Value).IsNil", "internal/reflectlite.TypeOf", "(internal/reflectlite.Value).Elem", "(internal/reflectlite.Value).Set"], unfollowed := true, recurses := true, named := ["errors.errorType"], apart := false, laid := [("errors.errorType", laid_errors_errorType)], narrowed := true }
def FnPolygonTimesUptoSaid : Prop := fnPolygonTimesUptoRow.holds Tryd.pinned (OpenSpec.upto fnPolygonTimesSpec)

/-- 'laws.FnPolygon', WHERE WHAT IT READS IS OF BULK AT MOST 1048576: true; the input reads as it did. -/
def fnPolygonUptoRow : OpenClaim := { program := "ytgaeibibeekclaadoor", sum := "e9247b7e24e7288349117d056320a7c8e4402c0fccaedb17ea3593cb64c08045", func := "loop.example/toricfans/laws.FnPolygon", spec := "fnPolygon", inPlace := ["internal/reflectlite.ValueOf", "(internal/reflectlite.Value).Type", "(internal/reflectlite.Value).IsNil", "internal/reflectlite.TypeOf", "(internal/reflectlite.Value).Elem", "(internal/reflectlite.Value).Set"], unfollowed := true, recurses := true, named := ["errors.errorType"], apart := false, laid := [("errors.errorType", laid_errors_errorType)], narrowed := true }
def FnPolygonUptoSaid : Prop := fnPolygonUptoRow.holds Tryd.pinned (OpenSpec.upto fnPolygonSpec)

/-- 'laws.FnHull', WHERE WHAT IT READS IS OF BULK AT MOST 1048576: true; the input reads as it did. -/
def fnHullUptoRow : OpenClaim := { program := "ytgaeibibeekclaadoor", sum := "e9247b7e24e7288349117d056320a7c8e4402c0fccaedb17ea3593cb64c08045", func := "loop.example/toricfans/laws.FnHull", spec := "fnHull", inPlace := ["internal/reflectlite.ValueOf", "(internal/reflectlite.Value).Type", "(internal/reflectlite.Value).IsNil", "internal/reflectlite.TypeOf", "(internal/reflectlite.Value).Elem", "(internal/reflectlite.Value).Set"], unfollowed := true, recurses := true, named := ["errors.errorType"], apart := false, laid := [("errors.errorType", laid_errors_errorType)], narrowed := true }
def FnHullUptoSaid : Prop := fnHullUptoRow.holds Tryd.pinned (OpenSpec.upto fnHullSpec)

/-- 'laws.FnPolygonHas', WHERE WHAT IT READS IS OF BULK AT MOST 1048576: true; the input reads as it did. -/
def fnPolygonHasUptoRow : OpenClaim := { program := "ytgaeibibeekclaadoor", sum := "e9247b7e24e7288349117d056320a7c8e4402c0fccaedb17ea3593cb64c08045", func := "loop.example/toricfans/laws.FnPolygonHas", spec := "fnPolygonHas", inPlace := ["internal/reflectlite.ValueOf", "(internal/reflectlite.Value).Type", "(internal/reflectlite.Value).IsNil", "internal/reflectlite.TypeOf", "(internal/reflectlite.Value).Elem", "(internal/reflectlite.Value).Set"], unfollowed := true, recurses := true, named := ["errors.errorType"], apart := false, laid := [("errors.errorType", laid_errors_errorType)], narrowed := true }
def FnPolygonHasUptoSaid : Prop := fnPolygonHasUptoRow.holds Tryd.pinned (OpenSpec.upto fnPolygonHasSpec)

/-- 'laws.FnExactPolygonSame', WHERE WHAT IT READS IS OF BULK AT MOST 1048576: true; the input reads as it did. -/
def fnExactPolygonSameUptoRow : OpenClaim := { program := "ytgaeibibeekclaadoor", sum := "e9247b7e24e7288349117d056320a7c8e4402c0fccaedb17ea3593cb64c08045", func := "loop.example/toricfans/laws.FnExactPolygonSame", spec := "fnExactPolygonSame", inPlace := ["internal/reflectlite.ValueOf", "(internal/reflectlite.Value).Type", "(internal/reflectlite.Value).IsNil", "internal/reflectlite.TypeOf", "(internal/reflectlite.Value).Elem", "(internal/reflectlite.Value).Set"], unfollowed := true, recurses := true, named := ["errors.errorType"], apart := false, laid := [("errors.errorType", laid_errors_errorType)], narrowed := true }
def FnExactPolygonSameUptoSaid : Prop := fnExactPolygonSameUptoRow.holds Tryd.pinned (OpenSpec.upto fnExactPolygonSameSpec)

end Rows
end Go.Proofs.YtgaeibibeekclaaDoor
