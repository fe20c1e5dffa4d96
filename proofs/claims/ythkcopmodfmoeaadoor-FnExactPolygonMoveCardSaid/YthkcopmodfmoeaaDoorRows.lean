/-
  NARROWER THAN 'FOR EVERY INPUT', by the rows' own cells (each row's printed sentence says how): FnExactPolygonTidy: laid · FnExactPolygonOf: laid · FnExactPolygonSum: laid · FnExactPolygonTimes: laid · FnExactPolygonShift: laid · FnExactPolygonMove: laid · FnExactPolygonMixed: laid · FnExactPolygonSame: laid.
  DERIVED. THE GIVEN ROWS OF THIS SEAT. 8 by the template 'for every input the law returns true; each argument reads behind the call as it read before'; 0 by the template 'total and deterministic' (their statements: YthkcopmodfmoeaaDoorTotals.lean).
  GIVEN WITH THE SEED: the statements are not yours to turn. If you find one false, say at which input.
  Laid BY PROGRAM, IN A SANDBOX (cutbox-rows.mjs): the forced cells as the released guide's own fill.sh prints them over the translation 7fc9bee216a7592e… (all of the seat's roots in one cut). By AI agents, Wed Nov 11 2026. No macro, syntax, notation, axiom, sorry.
-/
import Derived.Test.YthkcopmodfmoeaaDoorChecked
import GoSem.Claim
import GoSem.ClaimJoined
import GoSem.ClaimMapViews
import Derived.JoinedTies
import Derived.KernelRfl
namespace Go.Proofs.YthkcopmodfmoeaaDoor
/- THE CELL 'sum', in the pinned program and in every row, IS THE sha256 OF THE DUMP (.gsa) THAT YthkcopmodfmoeaaDoorProg.lean LOADS. Nothing in Lean hashes anything: it is a label: what it is worth is what the hold of that sum in a sandbox is worth. -/
noncomputable def Tryd.pinned : Pinned := { name := "ythkcopmodfmoeaadoor", sum := "7fc9bee216a7592e731fd90119d0eda00958923a7b13bfbda9ff5352a8ea47d2", checked := Tryd.checked }
namespace Rows
def none {H : Type} : Left H := { results := [], args := [] }

/- WHAT THE LISTED PACKAGE-LEVEL VARIABLES READ AS WHEN THE CALL BEGINS. Each datum BY PROGRAM (the guide's laid-datum.mjs) off the statement by which the dump's own 'gosem.cut.vars' lays the variable. In a bare row this is a premise. The card (YthkcopmodfmoeaaDoorCards.lean) ties it to the program's text. -/
def laid_errors_errorType {H : Type} : DataW H := .iface "internal/reflectlite.rtype" (.agg [.ptr (.lit (.string [101, 114, 114, 111, 114]))])

/-- 'laws.FnExactPolygonTidy': WHATEVER THE INPUT: true; the input reads as it did. -/
def fnExactPolygonTidySpec : ChangeSpec := { name := "fnExactPolygonTidy", fn := fun _ => fun
  | [d] => { results := [.lit (.bool true)], args := [d] }
  | _ => none }
def fnExactPolygonTidyRow : OpenClaim := { program := "ythkcopmodfmoeaadoor", sum := "7fc9bee216a7592e731fd90119d0eda00958923a7b13bfbda9ff5352a8ea47d2", func := "loop.example/toricfans/laws.FnExactPolygonTidy", spec := "fnExactPolygonTidy", inPlace := ["internal/reflectlite.ValueOf", "(internal/reflectlite.Value).Type", "(internal/reflectlite.Value).IsNil", "internal/reflectlite.TypeOf", "(internal/reflectlite.Value).Elem", "(internal/reflectlite.Value).Set"], unfollowed := true, recurses := true, named := ["errors.errorType"], apart := false, laid := [("errors.errorType", laid_errors_errorType)] }
def FnExactPolygonTidySaid : Prop := fnExactPolygonTidyRow.holds Tryd.pinned (OpenSpec.ofChange fnExactPolygonTidySpec)

/-- ITS FALSE NEIGHBOUR: 'it returns false'. Refute it at one input. -/
def fnExactPolygonTidyWrong : ChangeSpec := { name := "fnExactPolygonTidy", fn := fun _ => fun
  | [d] => { results := [.lit (.bool false)], args := [d] }
  | _ => none }
def FnExactPolygonTidyWrongFalsely : Prop := fnExactPolygonTidyRow.holds Tryd.pinned (OpenSpec.ofChange fnExactPolygonTidyWrong)

/-- 'laws.FnExactPolygonOf': WHATEVER THE INPUT: true; the input reads as it did. -/
def fnExactPolygonOfSpec : ChangeSpec := { name := "fnExactPolygonOf", fn := fun _ => fun
  | [d] => { results := [.lit (.bool true)], args := [d] }
  | _ => none }
def fnExactPolygonOfRow : OpenClaim := { program := "ythkcopmodfmoeaadoor", sum := "7fc9bee216a7592e731fd90119d0eda00958923a7b13bfbda9ff5352a8ea47d2", func := "loop.example/toricfans/laws.FnExactPolygonOf", spec := "fnExactPolygonOf", inPlace := ["internal/reflectlite.ValueOf", "(internal/reflectlite.Value).Type", "(internal/reflectlite.Value).IsNil", "internal/reflectlite.TypeOf", "(internal/reflectlite.Value).Elem", "(internal/reflectlite.Value).Set"], unfollowed := true, recurses := true, named := ["errors.errorType"], apart := false, laid := [("errors.errorType", laid_errors_errorType)] }
def FnExactPolygonOfSaid : Prop := fnExactPolygonOfRow.holds Tryd.pinned (OpenSpec.ofChange fnExactPolygonOfSpec)

/-- ITS FALSE NEIGHBOUR: 'it returns false'. Refute it at one input. -/
def fnExactPolygonOfWrong : ChangeSpec := { name := "fnExactPolygonOf", fn := fun _ => fun
  | [d] => { results := [.lit (.bool false)], args := [d] }
  | _ => none }
def FnExactPolygonOfWrongFalsely : Prop := fnExactPolygonOfRow.holds Tryd.pinned (OpenSpec.ofChange fnExactPolygonOfWrong)

/-- 'laws.FnExactPolygonSum': WHATEVER THE INPUT: true; the input reads as it did. -/
def fnExactPolygonSumSpec : ChangeSpec := { name := "fnExactPolygonSum", fn := fun _ => fun
  | [d1, d2] => { results := [.lit (.bool true)], args := [d1, d2] }
  | _ => none }
def fnExactPolygonSumRow : OpenClaim := { program := "ythkcopmodfmoeaadoor", sum := "7fc9bee216a7592e731fd90119d0eda00958923a7b13bfbda9ff5352a8ea47d2", func := "loop.example/toricfans/laws.FnExactPolygonSum", spec := "fnExactPolygonSum", inPlace := ["internal/reflectlite.ValueOf", "(internal/reflectlite.Value).Type", "(internal/reflectlite.Value).IsNil", "internal/reflectlite.TypeOf", "(internal/reflectlite.Value).Elem", "(internal/reflectlite.Value).Set"], unfollowed := true, recurses := true, named := ["errors.errorType"], apart := false, laid := [("errors.errorType", laid_errors_errorType)] }
def FnExactPolygonSumSaid : Prop := fnExactPolygonSumRow.holds Tryd.pinned (OpenSpec.ofChange fnExactPolygonSumSpec)

/-- ITS FALSE NEIGHBOUR: 'it returns false'. Refute it at one input. -/
def fnExactPolygonSumWrong : ChangeSpec := { name := "fnExactPolygonSum", fn := fun _ => fun
  | [d1, d2] => { results := [.lit (.bool false)], args := [d1, d2] }
  | _ => none }
def FnExactPolygonSumWrongFalsely : Prop := fnExactPolygonSumRow.holds Tryd.pinned (OpenSpec.ofChange fnExactPolygonSumWrong)

/-- 'laws.FnExactPolygonTimes': WHATEVER THE INPUT: true; the input reads as it did. -/
def fnExactPolygonTimesSpec : ChangeSpec := { name := "fnExactPolygonTimes", fn := fun _ => fun
  | [d1, d2] => { results := [.lit (.bool true)], args := [d1, d2] }
  | _ => none }
def fnExactPolygonTimesRow : OpenClaim := { program := "ythkcopmodfmoeaadoor", sum := "7fc9bee216a7592e731fd90119d0eda00958923a7b13bfbda9ff5352a8ea47d2", func := "loop.example/toricfans/laws.FnExactPolygonTimes", spec := "fnExactPolygonTimes", inPlace := ["internal/reflectlite.ValueOf", "(internal/reflectlite.Value).Type", "(internal/reflectlite.Value).IsNil", "internal/reflectlite.TypeOf", "(internal/reflectlite.Value).Elem", "(internal/reflectlite.Value).Set"], unfollowed := true, recurses := true, named := ["errors.errorType"], apart := false, laid := [("errors.errorType", laid_errors_errorType)] }
def FnExactPolygonTimesSaid : Prop := fnExactPolygonTimesRow.holds Tryd.pinned (OpenSpec.ofChange fnExactPolygonTimesSpec)

/-- ITS FALSE NEIGHBOUR: 'it returns false'. Refute it at one input. -/
def fnExactPolygonTimesWrong : ChangeSpec := { name := "fnExactPolygonTimes", fn := fun _ => fun
  | [d1, d2] => { results := [.lit (.bool false)], args := [d1, d2] }
  | _ => none }
def FnExactPolygonTimesWrongFalsely : Prop := fnExactPolygonTimesRow.holds Tryd.pinned (OpenSpec.ofChange fnExactPolygonTimesWrong)

/-- 'laws.FnExactPolygonShift': WHATEVER THE INPUT: true; the input reads as it did. -/
def fnExactPolygonShiftSpec : ChangeSpec := { name := "fnExactPolygonShift", fn := fun _ => fun
  | [d1, d2] => { results := [.lit (.bool true)], args := [d1, d2] }
  | _ => none }
def fnExactPolygonShiftRow : OpenClaim := { program := "ythkcopmodfmoeaadoor", sum := "7fc9bee216a7592e731fd90119d0eda00958923a7b13bfbda9ff5352a8ea47d2", func := "loop.example/toricfans/laws.FnExactPolygonShift", spec := "fnExactPolygonShift", inPlace := ["internal/reflectlite.ValueOf", "(internal/reflectlite.Value).Type", "(internal/reflectlite.Value).IsNil", "internal/reflectlite.TypeOf", "(internal/reflectlite.Value).Elem", "(internal/reflectlite.Value).Set"], unfollowed := true, recurses := true, named := ["errors.errorType"], apart := false, laid := [("errors.errorType", laid_errors_errorType)] }
def FnExactPolygonShiftSaid : Prop := fnExactPolygonShiftRow.holds Tryd.pinned (OpenSpec.ofChange fnExactPolygonShiftSpec)

/-- ITS FALSE NEIGHBOUR: 'it returns false'. Refute it at one input. -/
def fnExactPolygonShiftWrong : ChangeSpec := { name := "fnExactPolygonShift", fn := fun _ => fun
  | [d1, d2] => { results := [.lit (.bool false)], args := [d1, d2] }
  | _ => none }
def FnExactPolygonShiftWrongFalsely : Prop := fnExactPolygonShiftRow.holds Tryd.pinned (OpenSpec.ofChange fnExactPolygonShiftWrong)

/-- 'laws.FnExactPolygonMove': WHATEVER THE INPUT: true; the input reads as it did. -/
def fnExactPolygonMoveSpec : ChangeSpec := { name := "fnExactPolygonMove", fn := fun _ => fun
  | [d1, d2] => { results := [.lit (.bool true)], args := [d1, d2] }
  | _ => none }
def fnExactPolygonMoveRow : OpenClaim := { program := "ythkcopmodfmoeaadoor", sum := "7fc9bee216a7592e731fd90119d0eda00958923a7b13bfbda9ff5352a8ea47d2", func := "loop.example/toricfans/laws.FnExactPolygonMove", spec := "fnExactPolygonMove", inPlace := ["internal/reflectlite.ValueOf", "(internal/reflectlite.Value).Type", "(internal/reflectlite.Value).IsNil", "internal/reflectlite.TypeOf", "(internal/reflectlite.Value).Elem", "(internal/reflectlite.Value).Set"], unfollowed := true, recurses := true, named := ["errors.errorType"], apart := false, laid := [("errors.errorType", laid_errors_errorType)] }
def FnExactPolygonMoveSaid : Prop := fnExactPolygonMoveRow.holds Tryd.pinned (OpenSpec.ofChange fnExactPolygonMoveSpec)

/-- ITS FALSE NEIGHBOUR: 'it returns false'. Refute it at one input. -/
def fnExactPolygonMoveWrong : ChangeSpec := { name := "fnExactPolygonMove", fn := fun _ => fun
  | [d1, d2] => { results := [.lit (.bool false)], args := [d1, d2] }
  | _ => none }
def FnExactPolygonMoveWrongFalsely : Prop := fnExactPolygonMoveRow.holds Tryd.pinned (OpenSpec.ofChange fnExactPolygonMoveWrong)

/-- 'laws.FnExactPolygonMixed': WHATEVER THE INPUT: true; the input reads as it did. -/
def fnExactPolygonMixedSpec : ChangeSpec := { name := "fnExactPolygonMixed", fn := fun _ => fun
  | [d1, d2] => { results := [.lit (.bool true)], args := [d1, d2] }
  | _ => none }
def fnExactPolygonMixedRow : OpenClaim := { program := "ythkcopmodfmoeaadoor", sum := "7fc9bee216a7592e731fd90119d0eda00958923a7b13bfbda9ff5352a8ea47d2", func := "loop.example/toricfans/laws.FnExactPolygonMixed", spec := "fnExactPolygonMixed", inPlace := ["internal/reflectlite.ValueOf", "(internal/reflectlite.Value).Type", "(internal/reflectlite.Value).IsNil", "internal/reflectlite.TypeOf", "(internal/reflectlite.Value).Elem", "(internal/reflectlite.Value).Set"], unfollowed := true, recurses := true, named := ["errors.errorType"], apart := false, laid := [("errors.errorType", laid_errors_errorType)] }
def FnExactPolygonMixedSaid : Prop := fnExactPolygonMixedRow.holds Tryd.pinned (OpenSpec.ofChange fnExactPolygonMixedSpec)

/-- ITS FALSE NEIGHBOUR: 'it returns false'. Refute it at one input. -/
def fnExactPolygonMixedWrong : ChangeSpec := { name := "fnExactPolygonMixed", fn := fun _ => fun
  | [d1, d2] => { results := [.lit (.bool false)], args := [d1, d2] }
  | _ => none }
def FnExactPolygonMixedWrongFalsely : Prop := fnExactPolygonMixedRow.holds Tryd.pinned (OpenSpec.ofChange fnExactPolygonMixedWrong)

/-- 'laws.FnExactPolygonSame': WHATEVER THE INPUT: true; the input reads as it did. -/
def fnExactPolygonSameSpec : ChangeSpec := { name := "fnExactPolygonSame", fn := fun _ => fun
  | [d1, d2] => { results := [.lit (.bool true)], args := [d1, d2] }
  | _ => none }
def fnExactPolygonSameRow : OpenClaim := { program := "ythkcopmodfmoeaadoor", sum := "7fc9bee216a7592e731fd90119d0eda00958923a7b13bfbda9ff5352a8ea47d2", func := "loop.example/toricfans/laws.FnExactPolygonSame", spec := "fnExactPolygonSame", inPlace := ["internal/reflectlite.ValueOf", "(internal/reflectlite.Value).Type", "(internal/reflectlite.Value).IsNil", "internal/reflectlite.TypeOf", "(internal/reflectlite.Value).Elem", "(internal/reflectlite.Value).Set"], unfollowed := true, recurses := true, named := ["errors.errorType"], apart := false, laid := [("errors.errorType", laid_errors_errorType)] }
def FnExactPolygonSameSaid : Prop := fnExactPolygonSameRow.holds Tryd.pinned (OpenSpec.ofChange fnExactPolygonSameSpec)

/-- ITS FALSE NEIGHBOUR: 'it returns false'. Refute it at one input. -/
def fnExactPolygonSameWrong : ChangeSpec := { name := "fnExactPolygonSame", fn := fun _ => fun
  | [d1, d2] => { results := [.lit (.bool false)], args := [d1, d2] }
  | _ => none }
def FnExactPolygonSameWrongFalsely : Prop := fnExactPolygonSameRow.holds Tryd.pinned (OpenSpec.ofChange fnExactPolygonSameWrong)

/- THE SECOND FORM. 'bulk': how many values and letters a reading holds, each counted each time it is reached (what is shared counts as often as it is met; a slice's spare places count too). A statement '..UptoSaid' is the law's where the arguments, and the package variables that the reading takes, are together of bulk at most 1048576: NARROWER than '..Said'. Prove '..Said' where nothing that the law and all that it calls make is longer than what came in: it says more and counts as full. Else prove '..UptoSaid'. A law counts once. -/
mutual
def uptoBulk {H : Type} : DataW H → Nat
  | .lit (.string bytes) => bytes.length + 1
  | .lit _ => 1
  | .nil => 1
  | .ptr d => uptoBulk d + 1
  | .slice elems spare => uptoBulkAll elems + uptoBulkAll spare + 1
  | .agg parts => uptoBulkAll parts + 1
  | .iface _ d => uptoBulk d + 1
  | .map entries => uptoBulkEntries entries + 1
  | .held _ => 1
def uptoBulkAll {H : Type} : List (DataW H) → Nat
  | [] => 0
  | d :: r => uptoBulk d + uptoBulkAll r
def uptoBulkEntries {H : Type} : List (Lit × DataW H) → Nat
  | [] => 0
  | x :: r => uptoBulkEntry x + uptoBulkEntries r
def uptoBulkEntry {H : Type} : Lit × DataW H → Nat
  | (.string bytes, d) => bytes.length + uptoBulk d + 1
  | (_, d) => uptoBulk d + 1
 end
def uptoSmall : (H : Type) → List (DataW H) → Bool := fun _ ds => decide (uptoBulkAll ds ≤ 1048576)
def OpenSpec.upto (s : _root_.Go.ChangeSpec) : _root_.Go.OpenSpec := { _root_.Go.OpenSpec.ofChange s with cond := some uptoSmall }

/-- 'laws.FnExactPolygonTidy', WHERE WHAT IT READS IS OF BULK AT MOST 1048576: true; the input reads as it did. -/
def fnExactPolygonTidyUptoRow : OpenClaim := { program := "ythkcopmodfmoeaadoor", sum := "7fc9bee216a7592e731fd90119d0eda00958923a7b13bfbda9ff5352a8ea47d2", func := "loop.example/toricfans/laws.FnExactPolygonTidy", spec := "fnExactPolygonTidy", inPlace := ["internal/reflectlite.ValueOf", "(internal/reflectlite.Value).Type", "(internal/reflectlite.Value).IsNil", "internal/reflectlite.TypeOf", "(internal/reflectlite.Value).Elem", "(internal/reflectlite.Value).Set"], unfollowed := true, recurses := true, named := ["errors.errorType"], apart := false, laid := [("errors.errorType", laid_errors_errorType)], narrowed := true }
def FnExactPolygonTidyUptoSaid : Prop := fnExactPolygonTidyUptoRow.holds Tryd.pinned (OpenSpec.upto fnExactPolygonTidySpec)

/-- 'laws.FnExactPolygonOf', WHERE WHAT IT READS IS OF BULK AT MOST 1048576: true; the input reads as it did. -/
def fnExactPolygonOfUptoRow : OpenClaim := { program := "ythkcopmodfmoeaadoor", sum := "7fc9bee216a7592e731fd90119d0eda00958923a7b13bfbda9ff5352a8ea47d2", func := "loop.example/toricfans/laws.FnExactPolygonOf", spec := "fnExactPolygonOf", inPlace := ["internal/reflectlite.ValueOf", "(internal/reflectlite.Value).Type", "(internal/reflectlite.Value).IsNil", "internal/reflectlite.TypeOf", "(internal/reflectlite.Value).Elem", "(internal/reflectlite.Value).Set"], unfollowed := true, recurses := true, named := ["errors.errorType"], apart := false, laid := [("errors.errorType", laid_errors_errorType)], narrowed := true }
def FnExactPolygonOfUptoSaid : Prop := fnExactPolygonOfUptoRow.holds Tryd.pinned (OpenSpec.upto fnExactPolygonOfSpec)

/-- 'laws.FnExactPolygonSum', WHERE WHAT IT READS IS OF BULK AT MOST 1048576: true; the input reads as it did. -/
def fnExactPolygonSumUptoRow : OpenClaim := { program := "ythkcopmodfmoeaadoor", sum := "7fc9bee216a7592e731fd90119d0eda00958923a7b13bfbda9ff5352a8ea47d2", func := "loop.example/toricfans/laws.FnExactPolygonSum", spec := "fnExactPolygonSum", inPlace := ["internal/reflectlite.ValueOf", "(internal/reflectlite.Value).Type", "(internal/reflectlite.Value).IsNil", "internal/reflectlite.TypeOf", "(internal/reflectlite.Value).Elem", "(internal/reflectlite.Value).Set"], unfollowed := true, recurses := true, named := ["errors.errorType"], apart := false, laid := [("errors.errorType", laid_errors_errorType)], narrowed := true }
def FnExactPolygonSumUptoSaid : Prop := fnExactPolygonSumUptoRow.holds Tryd.pinned (OpenSpec.upto fnExactPolygonSumSpec)

/-- 'laws.FnExactPolygonTimes', WHERE WHAT IT READS IS OF BULK AT MOST 1048576: true; the input reads as it did. -/
def fnExactPolygonTimesUptoRow : OpenClaim := { program := "ythkcopmodfmoeaadoor", sum := "7fc9bee216a7592e731fd90119d0eda00958923a7b13bfbda9ff5352a8ea47d2", func := "loop.example/toricfans/laws.FnExactPolygonTimes", spec := "fnExactPolygonTimes", inPlace := ["internal/reflectlite.ValueOf", "(internal/reflectlite.Value).Type", "(internal/reflectlite.Value).IsNil", "internal/reflectlite.TypeOf", "(internal/reflectlite.Value).Elem", "(internal/reflectlite.Value).Set"], unfollowed := true, recurses := true, named := ["errors.errorType"], apart := false, laid := [("errors.errorType", laid_errors_errorType)], narrowed := true }
def FnExactPolygonTimesUptoSaid : Prop := fnExactPolygonTimesUptoRow.holds Tryd.pinned (OpenSpec.upto fnExactPolygonTimesSpec)

/-- 'laws.FnExactPolygonShift', WHERE WHAT IT READS IS OF BULK AT MOST 1048576: true; the input reads as it did. -/
def fnExactPolygonShiftUptoRow : OpenClaim := { program := "ythkcopmodfmoeaadoor", sum := "7fc9bee216a7592e731fd90119d0eda00958923a7b13bfbda9ff5352a8ea47d2", func := "loop.example/toricfans/laws.FnExactPolygonShift", spec := "fnExactPolygonShift", inPlace := ["internal/reflectlite.ValueOf", "(internal/reflectlite.Value).Type", "(internal/reflectlite.Value).IsNil", "internal/reflectlite.TypeOf", "(internal/reflectlite.Value).Elem", "(internal/reflectlite.Value).Set"], unfollowed := true, recurses := true, named := ["errors.errorType"], apart := false, laid := [("errors.errorType", laid_errors_errorType)], narrowed := true }
def FnExactPolygonShiftUptoSaid : Prop := fnExactPolygonShiftUptoRow.holds Tryd.pinned (OpenSpec.upto fnExactPolygonShiftSpec)

/-- 'laws.FnExactPolygonMove', WHERE WHAT IT READS IS OF BULK AT MOST 1048576: true; the input reads as it did. -/
def fnExactPolygonMoveUptoRow : OpenClaim := { program := "ythkcopmodfmoeaadoor", sum := "7fc9bee216a7592e731fd90119d0eda00958923a7b13bfbda9ff5352a8ea47d2", func := "loop.example/toricfans/laws.FnExactPolygonMove", spec := "fnExactPolygonMove", inPlace := ["internal/reflectlite.ValueOf", "(internal/reflectlite.Value).Type", "(internal/reflectlite.Value).IsNil", "internal/reflectlite.TypeOf", "(internal/reflectlite.Value).Elem", "(internal/reflectlite.Value).Set"], unfollowed := true, recurses := true, named := ["errors.errorType"], apart := false, laid := [("errors.errorType", laid_errors_errorType)], narrowed := true }
def FnExactPolygonMoveUptoSaid : Prop := fnExactPolygonMoveUptoRow.holds Tryd.pinned (OpenSpec.upto fnExactPolygonMoveSpec)

/-- 'laws.FnExactPolygonMixed', WHERE WHAT IT READS IS OF BULK AT MOST 1048576: true; the input reads as it did. -/
def fnExactPolygonMixedUptoRow : OpenClaim := { program := "ythkcopmodfmoeaadoor", sum := "7fc9bee216a7592e731fd90119d0eda00958923a7b13bfbda9ff5352a8ea47d2", func := "loop.example/toricfans/laws.FnExactPolygonMixed", spec := "fnExactPolygonMixed", inPlace := ["internal/reflectlite.ValueOf", "(internal/reflectlite.Value).Type", "(internal/reflectlite.Value).IsNil", "internal/reflectlite.TypeOf", "(internal/reflectlite.Value).Elem", "(internal/reflectlite.Value).Set"], unfollowed := true, recurses := true, named := ["errors.errorType"], apart := false, laid := [("errors.errorType", laid_errors_errorType)], narrowed := true }
def FnExactPolygonMixedUptoSaid : Prop := fnExactPolygonMixedUptoRow.holds Tryd.pinned (OpenSpec.upto fnExactPolygonMixedSpec)

/-- 'laws.FnExactPolygonSame', WHERE WHAT IT READS IS OF BULK AT MOST 1048576: true; the input reads as it did. -/
def fnExactPolygonSameUptoRow : OpenClaim := { program := "ythkcopmodfmoeaadoor", sum := "7fc9bee216a7592e731fd90119d0eda00958923a7b13bfbda9ff5352a8ea47d2", func := "loop.example/toricfans/laws.FnExactPolygonSame", spec := "fnExactPolygonSame", inPlace := ["internal/reflectlite.ValueOf", "(internal/reflectlite.Value).Type", "(internal/reflectlite.Value).IsNil", "internal/reflectlite.TypeOf", "(internal/reflectlite.Value).Elem", "(internal/reflectlite.Value).Set"], unfollowed := true, recurses := true, named := ["errors.errorType"], apart := false, laid := [("errors.errorType", laid_errors_errorType)], narrowed := true }
def FnExactPolygonSameUptoSaid : Prop := fnExactPolygonSameUptoRow.holds Tryd.pinned (OpenSpec.upto fnExactPolygonSameSpec)

end Rows
end Go.Proofs.YthkcopmodfmoeaaDoor
