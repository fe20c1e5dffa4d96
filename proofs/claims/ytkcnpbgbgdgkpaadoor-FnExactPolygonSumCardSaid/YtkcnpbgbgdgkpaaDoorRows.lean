/-
  NARROWER THAN 'FOR EVERY INPUT', by the rows' own cells (each row's printed sentence says how): FnExactPolygonOf: laid · FnExactPolygonSum: laid · FnExactPolygonMixed: laid · FnExactPolygonSame: laid · FnExactReflexiveIn: laid · FnExactFanConvex: laid.
  DERIVED. THE GIVEN ROWS OF THIS SEAT. 6 by the template 'for every input the law returns true; each argument reads behind the call as it read before'; 0 by the template 'total and deterministic' (their statements: YtkcnpbgbgdgkpaaDoorTotals.lean).
  GIVEN WITH THE SEED: the statements are not yours to turn. If you find one false, say at which input.
  Laid BY PROGRAM, IN A SANDBOX (cutbox-rows.mjs): the forced cells as the released guide's own fill.sh prints them over the translation 3a4eb31dc1edd792… (all of the seat's roots in one cut). By AI agents, Wed Nov 11 2026. No macro, syntax, notation, axiom, sorry.
-/
import Derived.Test.YtkcnpbgbgdgkpaaDoorChecked
import GoSem.Claim
import GoSem.ClaimJoined
import GoSem.ClaimMapViews
import Derived.JoinedTies
import Derived.KernelRfl
namespace Go.Proofs.YtkcnpbgbgdgkpaaDoor
/- THE CELL 'sum', in the pinned program and in every row, IS THE sha256 OF THE DUMP (.gsa) THAT YtkcnpbgbgdgkpaaDoorProg.lean LOADS. Nothing in Lean hashes anything: it is a label: what it is worth is what the hold of that sum in a sandbox is worth. -/
noncomputable def Tryd.pinned : Pinned := { name := "ytkcnpbgbgdgkpaadoor", sum := "3a4eb31dc1edd7921e9f4fbc3d61da53f0516f60798546a2d1eac13572533d83", checked := Tryd.checked }
namespace Rows
def none {H : Type} : Left H := { results := [], args := [] }

/- WHAT THE LISTED PACKAGE-LEVEL VARIABLES READ AS WHEN THE CALL BEGINS. Each datum BY PROGRAM (the guide's laid-datum.mjs) off the statement by which the dump's own 'gosem.cut.vars' lays the variable. In a bare row this is a premise. The card (YtkcnpbgbgdgkpaaDoorCards.lean) ties it to the program's text. -/
def laid_errors_errorType {H : Type} : DataW H := .iface "internal/reflectlite.rtype" (.agg [.ptr (.lit (.string [101, 114, 114, 111, 114]))])

/-- 'laws.FnExactPolygonOf': WHATEVER THE INPUT: true; the input reads as it did. -/
def fnExactPolygonOfSpec : ChangeSpec := { name := "fnExactPolygonOf", fn := fun _ => fun
  | [d] => { results := [.lit (.bool true)], args := [d] }
  | _ => none }
def fnExactPolygonOfRow : OpenClaim := { program := "ytkcnpbgbgdgkpaadoor", sum := "3a4eb31dc1edd7921e9f4fbc3d61da53f0516f60798546a2d1eac13572533d83", func := "loop.example/toricfans/laws.FnExactPolygonOf", spec := "fnExactPolygonOf", inPlace := ["internal/reflectlite.ValueOf", "(internal/reflectlite.Value).Type", "(internal/reflectlite.Value).IsNil", "internal/reflectlite.TypeOf", "(internal/reflectlite.Value).Elem", "(internal/reflectlite.Value).Set"], unfollowed := true, recurses := true, named := ["errors.errorType"], apart := false, laid := [("errors.errorType", laid_errors_errorType)] }
def FnExactPolygonOfSaid : Prop := fnExactPolygonOfRow.holds Tryd.pinned (OpenSpec.ofChange fnExactPolygonOfSpec)

/-- ITS FALSE NEIGHBOUR: 'it returns false'. Refute it at one input. -/
def fnExactPolygonOfWrong : ChangeSpec := { name := "fnExactPolygonOf", fn := fun _ => fun
  | [d] => { results := [.lit (.bool false)], args := [d] }
  | _ => none }
def FnExactPolygonOfWrongFalsely : Prop := fnExactPolygonOfRow.holds Tryd.pinned (OpenSpec.ofChange fnExactPolygonOfWrong)

/-- 'laws.FnExactPolygonSum': WHATEVER THE INPUT: true; the input reads as it did. -/
def fnExactPolygonSumSpec : ChangeSpec := { name := "fnExactPolygonSum", fn := fun _ => fun
  | [d1, d2] => { results := [.lit (.bool true)], args := [d1, d2] }
  | _ => none }
def fnExactPolygonSumRow : OpenClaim := { program := "ytkcnpbgbgdgkpaadoor", sum := "3a4eb31dc1edd7921e9f4fbc3d61da53f0516f60798546a2d1eac13572533d83", func := "loop.example/toricfans/laws.FnExactPolygonSum", spec := "fnExactPolygonSum", inPlace := ["internal/reflectlite.ValueOf", "(internal/reflectlite.Value).Type", "(internal/reflectlite.Value).IsNil", "internal/reflectlite.TypeOf", "(internal/reflectlite.Value).Elem", "(internal/reflectlite.Value).Set"], unfollowed := true, recurses := true, named := ["errors.errorType"], apart := false, laid := [("errors.errorType", laid_errors_errorType)] }
def FnExactPolygonSumSaid : Prop := fnExactPolygonSumRow.holds Tryd.pinned (OpenSpec.ofChange fnExactPolygonSumSpec)

/-- ITS FALSE NEIGHBOUR: 'it returns false'. Refute it at one input. -/
def fnExactPolygonSumWrong : ChangeSpec := { name := "fnExactPolygonSum", fn := fun _ => fun
  | [d1, d2] => { results := [.lit (.bool false)], args := [d1, d2] }
  | _ => none }
def FnExactPolygonSumWrongFalsely : Prop := fnExactPolygonSumRow.holds Tryd.pinned (OpenSpec.ofChange fnExactPolygonSumWrong)

/-- 'laws.FnExactPolygonMixed': WHATEVER THE INPUT: true; the input reads as it did. -/
def fnExactPolygonMixedSpec : ChangeSpec := { name := "fnExactPolygonMixed", fn := fun _ => fun
  | [d1, d2] => { results := [.lit (.bool true)], args := [d1, d2] }
  | _ => none }
def fnExactPolygonMixedRow : OpenClaim := { program := "ytkcnpbgbgdgkpaadoor", sum := "3a4eb31dc1edd7921e9f4fbc3d61da53f0516f60798546a2d1eac13572533d83", func := "loop.example/toricfans/laws.FnExactPolygonMixed", spec := "fnExactPolygonMixed", inPlace := ["internal/reflectlite.ValueOf", "(internal/reflectlite.Value).Type", "(internal/reflectlite.Value).IsNil", "internal/reflectlite.TypeOf", "(internal/reflectlite.Value).Elem", "(internal/reflectlite.Value).Set"], unfollowed := true, recurses := true, named := ["errors.errorType"], apart := false, laid := [("errors.errorType", laid_errors_errorType)] }
def FnExactPolygonMixedSaid : Prop := fnExactPolygonMixedRow.holds Tryd.pinned (OpenSpec.ofChange fnExactPolygonMixedSpec)

/-- ITS FALSE NEIGHBOUR: 'it returns false'. Refute it at one input. -/
def fnExactPolygonMixedWrong : ChangeSpec := { name := "fnExactPolygonMixed", fn := fun _ => fun
  | [d1, d2] => { results := [.lit (.bool false)], args := [d1, d2] }
  | _ => none }
def FnExactPolygonMixedWrongFalsely : Prop := fnExactPolygonMixedRow.holds Tryd.pinned (OpenSpec.ofChange fnExactPolygonMixedWrong)

/-- 'laws.FnExactPolygonSame': WHATEVER THE INPUT: true; the input reads as it did. -/
def fnExactPolygonSameSpec : ChangeSpec := { name := "fnExactPolygonSame", fn := fun _ => fun
  | [d1, d2] => { results := [.lit (.bool true)], args := [d1, d2] }
  | _ => none }
def fnExactPolygonSameRow : OpenClaim := { program := "ytkcnpbgbgdgkpaadoor", sum := "3a4eb31dc1edd7921e9f4fbc3d61da53f0516f60798546a2d1eac13572533d83", func := "loop.example/toricfans/laws.FnExactPolygonSame", spec := "fnExactPolygonSame", inPlace := ["internal/reflectlite.ValueOf", "(internal/reflectlite.Value).Type", "(internal/reflectlite.Value).IsNil", "internal/reflectlite.TypeOf", "(internal/reflectlite.Value).Elem", "(internal/reflectlite.Value).Set"], unfollowed := true, recurses := true, named := ["errors.errorType"], apart := false, laid := [("errors.errorType", laid_errors_errorType)] }
def FnExactPolygonSameSaid : Prop := fnExactPolygonSameRow.holds Tryd.pinned (OpenSpec.ofChange fnExactPolygonSameSpec)

/-- ITS FALSE NEIGHBOUR: 'it returns false'. Refute it at one input. -/
def fnExactPolygonSameWrong : ChangeSpec := { name := "fnExactPolygonSame", fn := fun _ => fun
  | [d1, d2] => { results := [.lit (.bool false)], args := [d1, d2] }
  | _ => none }
def FnExactPolygonSameWrongFalsely : Prop := fnExactPolygonSameRow.holds Tryd.pinned (OpenSpec.ofChange fnExactPolygonSameWrong)

/-- 'laws.FnExactReflexiveIn': WHATEVER THE INPUT: true; the input reads as it did. -/
def fnExactReflexiveInSpec : ChangeSpec := { name := "fnExactReflexiveIn", fn := fun _ => fun
  | [d] => { results := [.lit (.bool true)], args := [d] }
  | _ => none }
def fnExactReflexiveInRow : OpenClaim := { program := "ytkcnpbgbgdgkpaadoor", sum := "3a4eb31dc1edd7921e9f4fbc3d61da53f0516f60798546a2d1eac13572533d83", func := "loop.example/toricfans/laws.FnExactReflexiveIn", spec := "fnExactReflexiveIn", inPlace := ["internal/reflectlite.ValueOf", "(internal/reflectlite.Value).Type", "(internal/reflectlite.Value).IsNil", "internal/reflectlite.TypeOf", "(internal/reflectlite.Value).Elem", "(internal/reflectlite.Value).Set"], unfollowed := true, recurses := true, named := ["errors.errorType"], apart := false, laid := [("errors.errorType", laid_errors_errorType)] }
def FnExactReflexiveInSaid : Prop := fnExactReflexiveInRow.holds Tryd.pinned (OpenSpec.ofChange fnExactReflexiveInSpec)

/-- ITS FALSE NEIGHBOUR: 'it returns false'. Refute it at one input. -/
def fnExactReflexiveInWrong : ChangeSpec := { name := "fnExactReflexiveIn", fn := fun _ => fun
  | [d] => { results := [.lit (.bool false)], args := [d] }
  | _ => none }
def FnExactReflexiveInWrongFalsely : Prop := fnExactReflexiveInRow.holds Tryd.pinned (OpenSpec.ofChange fnExactReflexiveInWrong)

/-- 'laws.FnExactFanConvex': WHATEVER THE INPUT: true; the input reads as it did. -/
def fnExactFanConvexSpec : ChangeSpec := { name := "fnExactFanConvex", fn := fun _ => fun
  | [d] => { results := [.lit (.bool true)], args := [d] }
  | _ => none }
def fnExactFanConvexRow : OpenClaim := { program := "ytkcnpbgbgdgkpaadoor", sum := "3a4eb31dc1edd7921e9f4fbc3d61da53f0516f60798546a2d1eac13572533d83", func := "loop.example/toricfans/laws.FnExactFanConvex", spec := "fnExactFanConvex", inPlace := ["internal/reflectlite.ValueOf", "(internal/reflectlite.Value).Type", "(internal/reflectlite.Value).IsNil", "internal/reflectlite.TypeOf", "(internal/reflectlite.Value).Elem", "(internal/reflectlite.Value).Set"], unfollowed := true, recurses := true, named := ["errors.errorType"], apart := false, laid := [("errors.errorType", laid_errors_errorType)] }
def FnExactFanConvexSaid : Prop := fnExactFanConvexRow.holds Tryd.pinned (OpenSpec.ofChange fnExactFanConvexSpec)

/-- ITS FALSE NEIGHBOUR: 'it returns false'. Refute it at one input. -/
def fnExactFanConvexWrong : ChangeSpec := { name := "fnExactFanConvex", fn := fun _ => fun
  | [d] => { results := [.lit (.bool false)], args := [d] }
  | _ => none }
def FnExactFanConvexWrongFalsely : Prop := fnExactFanConvexRow.holds Tryd.pinned (OpenSpec.ofChange fnExactFanConvexWrong)

/- THE SECOND FORM. 'bulk': how many values and letters a reading holds, each counted each time it is reached (what is shared counts as often as it is met; a slice's spare places count too). A statement '..UptoSaid' is the law's where the arguments, and the package variables that the reading takes, are together of bulk at most 1048576: NARROWER than '..Said'. Prove '..Said' where nothing that the law and all that it calls make is longer than what came in: it says more and counts as full. Else prove '..UptoSaid'. A law counts once. -/
mutual
def uptoBulk {H : Type} : DataW H → Nat
  | .lit (.string bytes) => bytes.length + 1
  | .lit _ => 1
  | .nil => 1
  | .ptr d => uptoBulk d + 1
  | .slice elems spare => uptoBulkAll elems + uptoBulkAll spare + 1
  | .agg parts => uptoBulkAll parts + 1
  | .iface _ d => uptoBulk d + 1
  | .map entries => uptoBulkEntries entries + 1
  | .held _ => 1
def uptoBulkAll {H : Type} : List (DataW H) → Nat
  | [] => 0
  | d :: r => uptoBulk d + uptoBulkAll r
def uptoBulkEntries {H : Type} : List (Lit × DataW H) → Nat
  | [] => 0
  | x :: r => uptoBulkEntry x + uptoBulkEntries r
def uptoBulkEntry {H : Type} : Lit × DataW H → Nat
  | (.string bytes, d) => bytes.length + uptoBulk d + 1
  | (_, d) => uptoBulk d + 1
 end
def uptoSmall : (H : Type) → List (DataW H) → Bool := fun _ ds => decide (uptoBulkAll ds ≤ 1048576)
def OpenSpec.upto (s : _root_.Go.ChangeSpec) : _root_.Go.OpenSpec := { _root_.Go.OpenSpec.ofChange s with cond := some uptoSmall }

/-- 'laws.FnExactPolygonOf', WHERE WHAT IT READS IS OF BULK AT MOST 1048576: true; the input reads as it did. -/
def fnExactPolygonOfUptoRow : OpenClaim := { program := "ytkcnpbgbgdgkpaadoor", sum := "3a4eb31dc1edd7921e9f4fbc3d61da53f0516f60798546a2d1eac13572533d83", func := "loop.example/toricfans/laws.FnExactPolygonOf", spec := "fnExactPolygonOf", inPlace := ["internal/reflectlite.ValueOf", "(internal/reflectlite.Value).Type", "(internal/reflectlite.Value).IsNil", "internal/reflectlite.TypeOf", "(internal/reflectlite.Value).Elem", "(internal/reflectlite.Value).Set"], unfollowed := true, recurses := true, named := ["errors.errorType"], apart := false, laid := [("errors.errorType", laid_errors_errorType)], narrowed := true }
def FnExactPolygonOfUptoSaid : Prop := fnExactPolygonOfUptoRow.holds Tryd.pinned (OpenSpec.upto fnExactPolygonOfSpec)

/-- 'laws.FnExactPolygonSum', WHERE WHAT IT READS IS OF BULK AT MOST 1048576: true; the input reads as it did. -/
def fnExactPolygonSumUptoRow : OpenClaim := { program := "ytkcnpbgbgdgkpaadoor", sum := "3a4eb31dc1edd7921e9f4fbc3d61da53f0516f60798546a2d1eac13572533d83", func := "loop.example/toricfans/laws.FnExactPolygonSum", spec := "fnExactPolygonSum", inPlace := ["internal/reflectlite.ValueOf", "(internal/reflectlite.Value).Type", "(internal/reflectlite.Value).IsNil", "internal/reflectlite.TypeOf", "(internal/reflectlite.Value).Elem", "(internal/reflectlite.Value).Set"], unfollowed := true, recurses := true, named := ["errors.errorType"], apart := false, laid := [("errors.errorType", laid_errors_errorType)], narrowed := true }
def FnExactPolygonSumUptoSaid : Prop := fnExactPolygonSumUptoRow.holds Tryd.pinned (OpenSpec.upto fnExactPolygonSumSpec)

/-- 'laws.FnExactPolygonMixed', WHERE WHAT IT READS IS OF BULK AT MOST 1048576: true; the input reads as it did. -/
def fnExactPolygonMixedUptoRow : OpenClaim := { program := "ytkcnpbgbgdgkpaadoor", sum := "3a4eb31dc1edd7921e9f4fbc3d61da53f0516f60798546a2d1eac13572533d83", func := "loop.example/toricfans/laws.FnExactPolygonMixed", spec := "fnExactPolygonMixed", inPlace := ["internal/reflectlite.ValueOf", "(internal/reflectlite.Value).Type", "(internal/reflectlite.Value).IsNil", "internal/reflectlite.TypeOf", "(internal/reflectlite.Value).Elem", "(internal/reflectlite.Value).Set"], unfollowed := true, recurses := true, named := ["errors.errorType"], apart := false, laid := [("errors.errorType", laid_errors_errorType)], narrowed := true }
def FnExactPolygonMixedUptoSaid : Prop := fnExactPolygonMixedUptoRow.holds Tryd.pinned (OpenSpec.upto fnExactPolygonMixedSpec)

/-- 'laws.FnExactPolygonSame', WHERE WHAT IT READS IS OF BULK AT MOST 1048576: true; the input reads as it did. -/
def fnExactPolygonSameUptoRow : OpenClaim := { program := "ytkcnpbgbgdgkpaadoor", sum := "3a4eb31dc1edd7921e9f4fbc3d61da53f0516f60798546a2d1eac13572533d83", func := "loop.example/toricfans/laws.FnExactPolygonSame", spec := "fnExactPolygonSame", inPlace := ["internal/reflectlite.ValueOf", "(internal/reflectlite.Value).Type", "(internal/reflectlite.Value).IsNil", "internal/reflectlite.TypeOf", "(internal/reflectlite.Value).Elem", "(internal/reflectlite.Value).Set"], unfollowed := true, recurses := true, named := ["errors.errorType"], apart := false, laid := [("errors.errorType", laid_errors_errorType)], narrowed := true }
def FnExactPolygonSameUptoSaid : Prop := fnExactPolygonSameUptoRow.holds Tryd.pinned (OpenSpec.upto fnExactPolygonSameSpec)

/-- 'laws.FnExactReflexiveIn', WHERE WHAT IT READS IS OF BULK AT MOST 1048576: true; the input reads as it did. -/
def fnExactReflexiveInUptoRow : OpenClaim := { program := "ytkcnpbgbgdgkpaadoor", sum := "3a4eb31dc1edd7921e9f4fbc3d61da53f0516f60798546a2d1eac13572533d83", func := "loop.example/toricfans/laws.FnExactReflexiveIn", spec := "fnExactReflexiveIn", inPlace := ["internal/reflectlite.ValueOf", "(internal/reflectlite.Value).Type", "(internal/reflectlite.Value).IsNil", "internal/reflectlite.TypeOf", "(internal/reflectlite.Value).Elem", "(internal/reflectlite.Value).Set"], unfollowed := true, recurses := true, named := ["errors.errorType"], apart := false, laid := [("errors.errorType", laid_errors_errorType)], narrowed := true }
def FnExactReflexiveInUptoSaid : Prop := fnExactReflexiveInUptoRow.holds Tryd.pinned (OpenSpec.upto fnExactReflexiveInSpec)

/-- 'laws.FnExactFanConvex', WHERE WHAT IT READS IS OF BULK AT MOST 1048576: true; the input reads as it did. -/
def fnExactFanConvexUptoRow : OpenClaim := { program := "ytkcnpbgbgdgkpaadoor", sum := "3a4eb31dc1edd7921e9f4fbc3d61da53f0516f60798546a2d1eac13572533d83", func := "loop.example/toricfans/laws.FnExactFanConvex", spec := "fnExactFanConvex", inPlace := ["internal/reflectlite.ValueOf", "(internal/reflectlite.Value).Type", "(internal/reflectlite.Value).IsNil", "internal/reflectlite.TypeOf", "(internal/reflectlite.Value).Elem", "(internal/reflectlite.Value).Set"], unfollowed := true, recurses := true, named := ["errors.errorType"], apart := false, laid := [("errors.errorType", laid_errors_errorType)], narrowed := true }
def FnExactFanConvexUptoSaid : Prop := fnExactFanConvexUptoRow.holds Tryd.pinned (OpenSpec.upto fnExactFanConvexSpec)

end Rows
end Go.Proofs.YtkcnpbgbgdgkpaaDoor
