/-
  NARROWER THAN 'FOR EVERY INPUT', by the rows' own cells (each row's printed sentence says how): FnPrimitive: laid · FnExactVecPrimitive: laid · FnExactPolygonIn: laid · FnExactPolygonHas: laid · FnExactPolygonArea: laid · FnExactPolygonEdge: laid · FnExactPolygonInner: laid · FnExactPolygonCount: laid · FnExactPolygonNormals: laid.
  DERIVED. THE GIVEN ROWS OF THIS SEAT. 9 by the template 'for every input the law returns true; each argument reads behind the call as it read before'; 0 by the template 'total and deterministic' (their statements: YtomadlpdlmbmjaaDoorTotals.lean).
  GIVEN WITH THE SEED: the statements are not yours to turn. If you find one false, say at which input.
  Laid BY PROGRAM, IN A SANDBOX (cutbox-rows.mjs): the forced cells as the released guide's own fill.sh prints them over the translation ddad30b41f1ee446… (all of the seat's roots in one cut). By AI agents, Wed Nov 11 2026. No macro, syntax, notation, axiom, sorry.
-/
import Derived.Test.YtomadlpdlmbmjaaDoorChecked
import GoSem.Claim
import GoSem.ClaimJoined
import GoSem.ClaimMapViews
import Derived.JoinedTies
import Derived.KernelRfl
namespace Go.Proofs.YtomadlpdlmbmjaaDoor
/- THE CELL 'sum', in the pinned program and in every row, IS THE sha256 OF THE DUMP (.gsa) THAT YtomadlpdlmbmjaaDoorProg.lean LOADS. Nothing in Lean hashes anything: it is a label: what it is worth is what the hold of that sum in a sandbox is worth. -/
noncomputable def Tryd.pinned : Pinned := { name := "ytomadlpdlmbmjaadoor", sum := "ddad30b41f1ee44602527559eb63fc929b721cfa841e3029ce3c945ba029a7a4", checked := Tryd.checked }
namespace Rows
def none {H : Type} : Left H := { results := [], args := [] }

/- WHAT THE LISTED PACKAGE-LEVEL VARIABLES READ AS WHEN THE CALL BEGINS. Each datum BY PROGRAM (the guide's laid-datum.mjs) off the statement by which the dump's own 'gosem.cut.vars' lays the variable. In a bare row this is a premise. The card (YtomadlpdlmbmjaaDoorCards.lean) ties it to the program's text. -/
def laid_errors_errorType {H : Type} : DataW H := .iface "internal/reflectlite.rtype" (.agg [.ptr (.lit (.string [101, 114, 114, 111, 114]))])

/-- 'laws.FnPrimitive': WHATEVER THE INPUT: true; the input reads as it did. -/
def fnPrimitiveSpec : ChangeSpec := { name := "fnPrimitive", fn := fun _ => fun
  | [d] => { results := [.lit (.bool true)], args := [d] }
  | _ => none }
def fnPrimitiveRow : OpenClaim := { program := "ytomadlpdlmbmjaadoor", sum := "ddad30b41f1ee44602527559eb63fc929b721cfa841e3029ce3c945ba029a7a4", func := "loop.example/toricfans/laws.FnPrimitive", spec := "fnPrimitive", inPlace := ["internal/reflectlite.ValueOf", "(internal/reflectlite.Value).Type", "(internal/reflectlite.Value).IsNil", "internal/reflectlite.TypeOf", "(internal/reflectlite.Value).Elem", "(internal/reflectlite.Value).Set"], unfollowed := true, recurses := true, named := ["errors.errorType"], apart := false, laid := [("errors.errorType", laid_errors_errorType)] }
def FnPrimitiveSaid : Prop := fnPrimitiveRow.holds Tryd.pinned (OpenSpec.ofChange fnPrimitiveSpec)

/-- ITS FALSE NEIGHBOUR: 'it returns false'. Refute it at one input. -/
def fnPrimitiveWrong : ChangeSpec := { name := "fnPrimitive", fn := fun _ => fun
  | [d] => { results := [.lit (.bool false)], args := [d] }
  | _ => none }
def FnPrimitiveWrongFalsely : Prop := fnPrimitiveRow.holds Tryd.pinned (OpenSpec.ofChange fnPrimitiveWrong)

/-- 'laws.FnExactVecPrimitive': WHATEVER THE INPUT: true; the input reads as it did. -/
def fnExactVecPrimitiveSpec : ChangeSpec := { name := "fnExactVecPrimitive", fn := fun _ => fun
  | [d] => { results := [.lit (.bool true)], args := [d] }
  | _ => none }
def fnExactVecPrimitiveRow : OpenClaim := { program := "ytomadlpdlmbmjaadoor", sum := "ddad30b41f1ee44602527559eb63fc929b721cfa841e3029ce3c945ba029a7a4", func := "loop.example/toricfans/laws.FnExactVecPrimitive", spec := "fnExactVecPrimitive", inPlace := ["internal/reflectlite.ValueOf", "(internal/reflectlite.Value).Type", "(internal/reflectlite.Value).IsNil", "internal/reflectlite.TypeOf", "(internal/reflectlite.Value).Elem", "(internal/reflectlite.Value).Set"], unfollowed := true, recurses := true, named := ["errors.errorType"], apart := false, laid := [("errors.errorType", laid_errors_errorType)] }
def FnExactVecPrimitiveSaid : Prop := fnExactVecPrimitiveRow.holds Tryd.pinned (OpenSpec.ofChange fnExactVecPrimitiveSpec)

/-- ITS FALSE NEIGHBOUR: 'it returns false'. Refute it at one input. -/
def fnExactVecPrimitiveWrong : ChangeSpec := { name := "fnExactVecPrimitive", fn := fun _ => fun
  | [d] => { results := [.lit (.bool false)], args := [d] }
  | _ => none }
def FnExactVecPrimitiveWrongFalsely : Prop := fnExactVecPrimitiveRow.holds Tryd.pinned (OpenSpec.ofChange fnExactVecPrimitiveWrong)

/-- 'laws.FnExactPolygonIn': WHATEVER THE INPUT: true; the input reads as it did. -/
def fnExactPolygonInSpec : ChangeSpec := { name := "fnExactPolygonIn", fn := fun _ => fun
  | [d] => { results := [.lit (.bool true)], args := [d] }
  | _ => none }
def fnExactPolygonInRow : OpenClaim := { program := "ytomadlpdlmbmjaadoor", sum := "ddad30b41f1ee44602527559eb63fc929b721cfa841e3029ce3c945ba029a7a4", func := "loop.example/toricfans/laws.FnExactPolygonIn", spec := "fnExactPolygonIn", inPlace := ["internal/reflectlite.ValueOf", "(internal/reflectlite.Value).Type", "(internal/reflectlite.Value).IsNil", "internal/reflectlite.TypeOf", "(internal/reflectlite.Value).Elem", "(internal/reflectlite.Value).Set"], unfollowed := true, recurses := true, named := ["errors.errorType"], apart := false, laid := [("errors.errorType", laid_errors_errorType)] }
def FnExactPolygonInSaid : Prop := fnExactPolygonInRow.holds Tryd.pinned (OpenSpec.ofChange fnExactPolygonInSpec)

/-- ITS FALSE NEIGHBOUR: 'it returns false'. Refute it at one input. -/
def fnExactPolygonInWrong : ChangeSpec := { name := "fnExactPolygonIn", fn := fun _ => fun
  | [d] => { results := [.lit (.bool false)], args := [d] }
  | _ => none }
def FnExactPolygonInWrongFalsely : Prop := fnExactPolygonInRow.holds Tryd.pinned (OpenSpec.ofChange fnExactPolygonInWrong)

/-- 'laws.FnExactPolygonHas': WHATEVER THE INPUT: true; the input reads as it did. -/
def fnExactPolygonHasSpec : ChangeSpec := { name := "fnExactPolygonHas", fn := fun _ => fun
  | [d1, d2] => { results := [.lit (.bool true)], args := [d1, d2] }
  | _ => none }
def fnExactPolygonHasRow : OpenClaim := { program := "ytomadlpdlmbmjaadoor", sum := "ddad30b41f1ee44602527559eb63fc929b721cfa841e3029ce3c945ba029a7a4", func := "loop.example/toricfans/laws.FnExactPolygonHas", spec := "fnExactPolygonHas", inPlace := ["internal/reflectlite.ValueOf", "(internal/reflectlite.Value).Type", "(internal/reflectlite.Value).IsNil", "internal/reflectlite.TypeOf", "(internal/reflectlite.Value).Elem", "(internal/reflectlite.Value).Set"], unfollowed := true, recurses := true, named := ["errors.errorType"], apart := false, laid := [("errors.errorType", laid_errors_errorType)] }
def FnExactPolygonHasSaid : Prop := fnExactPolygonHasRow.holds Tryd.pinned (OpenSpec.ofChange fnExactPolygonHasSpec)

/-- ITS FALSE NEIGHBOUR: 'it returns false'. Refute it at one input. -/
def fnExactPolygonHasWrong : ChangeSpec := { name := "fnExactPolygonHas", fn := fun _ => fun
  | [d1, d2] => { results := [.lit (.bool false)], args := [d1, d2] }
  | _ => none }
def FnExactPolygonHasWrongFalsely : Prop := fnExactPolygonHasRow.holds Tryd.pinned (OpenSpec.ofChange fnExactPolygonHasWrong)

/-- 'laws.FnExactPolygonArea': WHATEVER THE INPUT: true; the input reads as it did. -/
def fnExactPolygonAreaSpec : ChangeSpec := { name := "fnExactPolygonArea", fn := fun _ => fun
  | [d] => { results := [.lit (.bool true)], args := [d] }
  | _ => none }
def fnExactPolygonAreaRow : OpenClaim := { program := "ytomadlpdlmbmjaadoor", sum := "ddad30b41f1ee44602527559eb63fc929b721cfa841e3029ce3c945ba029a7a4", func := "loop.example/toricfans/laws.FnExactPolygonArea", spec := "fnExactPolygonArea", inPlace := ["internal/reflectlite.ValueOf", "(internal/reflectlite.Value).Type", "(internal/reflectlite.Value).IsNil", "internal/reflectlite.TypeOf", "(internal/reflectlite.Value).Elem", "(internal/reflectlite.Value).Set"], unfollowed := true, recurses := true, named := ["errors.errorType"], apart := false, laid := [("errors.errorType", laid_errors_errorType)] }
def FnExactPolygonAreaSaid : Prop := fnExactPolygonAreaRow.holds Tryd.pinned (OpenSpec.ofChange fnExactPolygonAreaSpec)

/-- ITS FALSE NEIGHBOUR: 'it returns false'. Refute it at one input. -/
def fnExactPolygonAreaWrong : ChangeSpec := { name := "fnExactPolygonArea", fn := fun _ => fun
  | [d] => { results := [.lit (.bool false)], args := [d] }
  | _ => none }
def FnExactPolygonAreaWrongFalsely : Prop := fnExactPolygonAreaRow.holds Tryd.pinned (OpenSpec.ofChange fnExactPolygonAreaWrong)

/-- 'laws.FnExactPolygonEdge': WHATEVER THE INPUT: true; the input reads as it did. -/
def fnExactPolygonEdgeSpec : ChangeSpec := { name := "fnExactPolygonEdge", fn := fun _ => fun
  | [d] => { results := [.lit (.bool true)], args := [d] }
  | _ => none }
def fnExactPolygonEdgeRow : OpenClaim := { program := "ytomadlpdlmbmjaadoor", sum := "ddad30b41f1ee44602527559eb63fc929b721cfa841e3029ce3c945ba029a7a4", func := "loop.example/toricfans/laws.FnExactPolygonEdge", spec := "fnExactPolygonEdge", inPlace := ["internal/reflectlite.ValueOf", "(internal/reflectlite.Value).Type", "(internal/reflectlite.Value).IsNil", "internal/reflectlite.TypeOf", "(internal/reflectlite.Value).Elem", "(internal/reflectlite.Value).Set"], unfollowed := true, recurses := true, named := ["errors.errorType"], apart := false, laid := [("errors.errorType", laid_errors_errorType)] }
def FnExactPolygonEdgeSaid : Prop := fnExactPolygonEdgeRow.holds Tryd.pinned (OpenSpec.ofChange fnExactPolygonEdgeSpec)

/-- ITS FALSE NEIGHBOUR: 'it returns false'. Refute it at one input. -/
def fnExactPolygonEdgeWrong : ChangeSpec := { name := "fnExactPolygonEdge", fn := fun _ => fun
  | [d] => { results := [.lit (.bool false)], args := [d] }
  | _ => none }
def FnExactPolygonEdgeWrongFalsely : Prop := fnExactPolygonEdgeRow.holds Tryd.pinned (OpenSpec.ofChange fnExactPolygonEdgeWrong)

/-- 'laws.FnExactPolygonInner': WHATEVER THE INPUT: true; the input reads as it did. -/
def fnExactPolygonInnerSpec : ChangeSpec := { name := "fnExactPolygonInner", fn := fun _ => fun
  | [d] => { results := [.lit (.bool true)], args := [d] }
  | _ => none }
def fnExactPolygonInnerRow : OpenClaim := { program := "ytomadlpdlmbmjaadoor", sum := "ddad30b41f1ee44602527559eb63fc929b721cfa841e3029ce3c945ba029a7a4", func := "loop.example/toricfans/laws.FnExactPolygonInner", spec := "fnExactPolygonInner", inPlace := ["internal/reflectlite.ValueOf", "(internal/reflectlite.Value).Type", "(internal/reflectlite.Value).IsNil", "internal/reflectlite.TypeOf", "(internal/reflectlite.Value).Elem", "(internal/reflectlite.Value).Set"], unfollowed := true, recurses := true, named := ["errors.errorType"], apart := false, laid := [("errors.errorType", laid_errors_errorType)] }
def FnExactPolygonInnerSaid : Prop := fnExactPolygonInnerRow.holds Tryd.pinned (OpenSpec.ofChange fnExactPolygonInnerSpec)

/-- ITS FALSE NEIGHBOUR: 'it returns false'. Refute it at one input. -/
def fnExactPolygonInnerWrong : ChangeSpec := { name := "fnExactPolygonInner", fn := fun _ => fun
  | [d] => { results := [.lit (.bool false)], args := [d] }
  | _ => none }
def FnExactPolygonInnerWrongFalsely : Prop := fnExactPolygonInnerRow.holds Tryd.pinned (OpenSpec.ofChange fnExactPolygonInnerWrong)

/-- 'laws.FnExactPolygonCount': WHATEVER THE INPUT: true; the input reads as it did. -/
def fnExactPolygonCountSpec : ChangeSpec := { name := "fnExactPolygonCount", fn := fun _ => fun
  | [d] => { results := [.lit (.bool true)], args := [d] }
  | _ => none }
def fnExactPolygonCountRow : OpenClaim := { program := "ytomadlpdlmbmjaadoor", sum := "ddad30b41f1ee44602527559eb63fc929b721cfa841e3029ce3c945ba029a7a4", func := "loop.example/toricfans/laws.FnExactPolygonCount", spec := "fnExactPolygonCount", inPlace := ["internal/reflectlite.ValueOf", "(internal/reflectlite.Value).Type", "(internal/reflectlite.Value).IsNil", "internal/reflectlite.TypeOf", "(internal/reflectlite.Value).Elem", "(internal/reflectlite.Value).Set"], unfollowed := true, recurses := true, named := ["errors.errorType"], apart := false, laid := [("errors.errorType", laid_errors_errorType)] }
def FnExactPolygonCountSaid : Prop := fnExactPolygonCountRow.holds Tryd.pinned (OpenSpec.ofChange fnExactPolygonCountSpec)

/-- ITS FALSE NEIGHBOUR: 'it returns false'. Refute it at one input. -/
def fnExactPolygonCountWrong : ChangeSpec := { name := "fnExactPolygonCount", fn := fun _ => fun
  | [d] => { results := [.lit (.bool false)], args := [d] }
  | _ => none }
def FnExactPolygonCountWrongFalsely : Prop := fnExactPolygonCountRow.holds Tryd.pinned (OpenSpec.ofChange fnExactPolygonCountWrong)

/-- 'laws.FnExactPolygonNormals': WHATEVER THE INPUT: true; the input reads as it did. -/
def fnExactPolygonNormalsSpec : ChangeSpec := { name := "fnExactPolygonNormals", fn := fun _ => fun
  | [d] => { results := [.lit (.bool true)], args := [d] }
  | _ => none }
def fnExactPolygonNormalsRow : OpenClaim := { program := "ytomadlpdlmbmjaadoor", sum := "ddad30b41f1ee44602527559eb63fc929b721cfa841e3029ce3c945ba029a7a4", func := "loop.example/toricfans/laws.FnExactPolygonNormals", spec := "fnExactPolygonNormals", inPlace := ["internal/reflectlite.ValueOf", "(internal/reflectlite.Value).Type", "(internal/reflectlite.Value).IsNil", "internal/reflectlite.TypeOf", "(internal/reflectlite.Value).Elem", "(internal/reflectlite.Value).Set"], unfollowed := true, recurses := true, named := ["errors.errorType"], apart := false, laid := [("errors.errorType", laid_errors_errorType)] }
def FnExactPolygonNormalsSaid : Prop := fnExactPolygonNormalsRow.holds Tryd.pinned (OpenSpec.ofChange fnExactPolygonNormalsSpec)

/-- ITS FALSE NEIGHBOUR: 'it returns false'. Refute it at one input. -/
def fnExactPolygonNormalsWrong : ChangeSpec := { name := "fnExactPolygonNormals", fn := fun _ => fun
  | [d] => { results := [.lit (.bool false)], args := [d] }
  | _ => none }
def FnExactPolygonNormalsWrongFalsely : Prop := fnExactPolygonNormalsRow.holds Tryd.pinned (OpenSpec.ofChange fnExactPolygonNormalsWrong)

/- THE SECOND FORM. 'bulk': how many values and letters a reading holds, each counted each time it is reached (what is shared counts as often as it is met; a slice's spare places count too). A statement '..UptoSaid' is the law's where the arguments, and the package variables that the reading takes, are together of bulk at most 1048576: NARROWER than '..Said'. Prove '..Said' where nothing that the law and all that it calls make is longer than what came in: it says more and counts as full. Else prove '..UptoSaid'. A law counts once. -/
mutual
def uptoBulk {H : Type} : DataW H → Nat
  | .lit (.string bytes) => bytes.length + 1
  | .lit _ => 1
  | .nil => 1
  | .ptr d => uptoBulk d + 1
  | .slice elems spare => uptoBulkAll elems + uptoBulkAll spare + 1
  | .agg parts => uptoBulkAll parts + 1
  | .iface _ d => uptoBulk d + 1
  | .map entries => uptoBulkEntries entries + 1
  | .held _ => 1
def uptoBulkAll {H : Type} : List (DataW H) → Nat
  | [] => 0
  | d :: r => uptoBulk d + uptoBulkAll r
def uptoBulkEntries {H : Type} : List (Lit × DataW H) → Nat
  | [] => 0
  | x :: r => uptoBulkEntry x + uptoBulkEntries r
def uptoBulkEntry {H : Type} : Lit × DataW H → Nat
  | (.string bytes, d) => bytes.length + uptoBulk d + 1
  | (_, d) => uptoBulk d + 1
 end
def uptoSmall : (H : Type) → List (DataW H) → Bool := fun _ ds => decide (uptoBulkAll ds ≤ 1048576)
def OpenSpec.upto (s : _root_.Go.ChangeSpec) : _root_.Go.OpenSpec := { _root_.Go.OpenSpec.ofChange s with cond := some uptoSmall }

/-- 'laws.FnPrimitive', WHERE WHAT IT READS IS OF BULK AT MOST 1048576: true; the input reads as it did. -/
def fnPrimitiveUptoRow : OpenClaim := { program := "ytomadlpdlmbmjaadoor", sum := "ddad30b41f1ee44602527559eb63fc929b721cfa841e3029ce3c945ba029a7a4", func := "loop.example/toricfans/laws.FnPrimitive", spec := "fnPrimitive", inPlace := ["internal/reflectlite.ValueOf", "(internal/reflectlite.Value).Type", "(internal/reflectlite.Value).IsNil", "internal/reflectlite.TypeOf", "(internal/reflectlite.Value).Elem", "(internal/reflectlite.Value).Set"], unfollowed := true, recurses := true, named := ["errors.errorType"], apart := false, laid := [("errors.errorType", laid_errors_errorType)], narrowed := true }
def FnPrimitiveUptoSaid : Prop := fnPrimitiveUptoRow.holds Tryd.pinned (OpenSpec.upto fnPrimitiveSpec)

/-- 'laws.FnExactVecPrimitive', WHERE WHAT IT READS IS OF BULK AT MOST 1048576: true; the input reads as it did. -/
def fnExactVecPrimitiveUptoRow : OpenClaim := { program := "ytomadlpdlmbmjaadoor", sum := "ddad30b41f1ee44602527559eb63fc929b721cfa841e3029ce3c945ba029a7a4", func := "loop.example/toricfans/laws.FnExactVecPrimitive", spec := "fnExactVecPrimitive", inPlace := ["internal/reflectlite.ValueOf", "(internal/reflectlite.Value).Type", "(internal/reflectlite.Value).IsNil", "internal/reflectlite.TypeOf", "(internal/reflectlite.Value).Elem", "(internal/reflectlite.Value).Set"], unfollowed := true, recurses := true, named := ["errors.errorType"], apart := false, laid := [("errors.errorType", laid_errors_errorType)], narrowed := true }
def FnExactVecPrimitiveUptoSaid : Prop := fnExactVecPrimitiveUptoRow.holds Tryd.pinned (OpenSpec.upto fnExactVecPrimitiveSpec)

/-- 'laws.FnExactPolygonIn', WHERE WHAT IT READS IS OF BULK AT MOST 1048576: true; the input reads as it did. -/
def fnExactPolygonInUptoRow : OpenClaim := { program := "ytomadlpdlmbmjaadoor", sum := "ddad30b41f1ee44602527559eb63fc929b721cfa841e3029ce3c945ba029a7a4", func := "loop.example/toricfans/laws.FnExactPolygonIn", spec := "fnExactPolygonIn", inPlace := ["internal/reflectlite.ValueOf", "(internal/reflectlite.Value).Type", "(internal/reflectlite.Value).IsNil", "internal/reflectlite.TypeOf", "(internal/reflectlite.Value).Elem", "(internal/reflectlite.Value).Set"], unfollowed := true, recurses := true, named := ["errors.errorType"], apart := false, laid := [("errors.errorType", laid_errors_errorType)], narrowed := true }
def FnExactPolygonInUptoSaid : Prop := fnExactPolygonInUptoRow.holds Tryd.pinned (OpenSpec.upto fnExactPolygonInSpec)

/-- 'laws.FnExactPolygonHas', WHERE WHAT IT READS IS OF BULK AT MOST 1048576: true; the input reads as it did. -/
def fnExactPolygonHasUptoRow : OpenClaim := { program := "ytomadlpdlmbmjaadoor", sum := "ddad30b41f1ee44602527559eb63fc929b721cfa841e3029ce3c945ba029a7a4", func := "loop.example/toricfans/laws.FnExactPolygonHas", spec := "fnExactPolygonHas", inPlace := ["internal/reflectlite.ValueOf", "(internal/reflectlite.Value).Type", "(internal/reflectlite.Value).IsNil", "internal/reflectlite.TypeOf", "(internal/reflectlite.Value).Elem", "(internal/reflectlite.Value).Set"], unfollowed := true, recurses := true, named := ["errors.errorType"], apart := false, laid := [("errors.errorType", laid_errors_errorType)], narrowed := true }
def FnExactPolygonHasUptoSaid : Prop := fnExactPolygonHasUptoRow.holds Tryd.pinned (OpenSpec.upto fnExactPolygonHasSpec)

/-- 'laws.FnExactPolygonArea', WHERE WHAT IT READS IS OF BULK AT MOST 1048576: true; the input reads as it did. -/
def fnExactPolygonAreaUptoRow : OpenClaim := { program := "ytomadlpdlmbmjaadoor", sum := "ddad30b41f1ee44602527559eb63fc929b721cfa841e3029ce3c945ba029a7a4", func := "loop.example/toricfans/laws.FnExactPolygonArea", spec := "fnExactPolygonArea", inPlace := ["internal/reflectlite.ValueOf", "(internal/reflectlite.Value).Type", "(internal/reflectlite.Value).IsNil", "internal/reflectlite.TypeOf", "(internal/reflectlite.Value).Elem", "(internal/reflectlite.Value).Set"], unfollowed := true, recurses := true, named := ["errors.errorType"], apart := false, laid := [("errors.errorType", laid_errors_errorType)], narrowed := true }
def FnExactPolygonAreaUptoSaid : Prop := fnExactPolygonAreaUptoRow.holds Tryd.pinned (OpenSpec.upto fnExactPolygonAreaSpec)

/-- 'laws.FnExactPolygonEdge', WHERE WHAT IT READS IS OF BULK AT MOST 1048576: true; the input reads as it did. -/
def fnExactPolygonEdgeUptoRow : OpenClaim := { program := "ytomadlpdlmbmjaadoor", sum := "ddad30b41f1ee44602527559eb63fc929b721cfa841e3029ce3c945ba029a7a4", func := "loop.example/toricfans/laws.FnExactPolygonEdge", spec := "fnExactPolygonEdge", inPlace := ["internal/reflectlite.ValueOf", "(internal/reflectlite.Value).Type", "(internal/reflectlite.Value).IsNil", "internal/reflectlite.TypeOf", "(internal/reflectlite.Value).Elem", "(internal/reflectlite.Value).Set"], unfollowed := true, recurses := true, named := ["errors.errorType"], apart := false, laid := [("errors.errorType", laid_errors_errorType)], narrowed := true }
def FnExactPolygonEdgeUptoSaid : Prop := fnExactPolygonEdgeUptoRow.holds Tryd.pinned (OpenSpec.upto fnExactPolygonEdgeSpec)

/-- 'laws.FnExactPolygonInner', WHERE WHAT IT READS IS OF BULK AT MOST 1048576: true; the input reads as it did. -/
def fnExactPolygonInnerUptoRow : OpenClaim := { program := "ytomadlpdlmbmjaadoor", sum := "ddad30b41f1ee44602527559eb63fc929b721cfa841e3029ce3c945ba029a7a4", func := "loop.example/toricfans/laws.FnExactPolygonInner", spec := "fnExactPolygonInner", inPlace := ["internal/reflectlite.ValueOf", "(internal/reflectlite.Value).Type", "(internal/reflectlite.Value).IsNil", "internal/reflectlite.TypeOf", "(internal/reflectlite.Value).Elem", "(internal/reflectlite.Value).Set"], unfollowed := true, recurses := true, named := ["errors.errorType"], apart := false, laid := [("errors.errorType", laid_errors_errorType)], narrowed := true }
def FnExactPolygonInnerUptoSaid : Prop := fnExactPolygonInnerUptoRow.holds Tryd.pinned (OpenSpec.upto fnExactPolygonInnerSpec)

/-- 'laws.FnExactPolygonCount', WHERE WHAT IT READS IS OF BULK AT MOST 1048576: true; the input reads as it did. -/
def fnExactPolygonCountUptoRow : OpenClaim := { program := "ytomadlpdlmbmjaadoor", sum := "ddad30b41f1ee44602527559eb63fc929b721cfa841e3029ce3c945ba029a7a4", func := "loop.example/toricfans/laws.FnExactPolygonCount", spec := "fnExactPolygonCount", inPlace := ["internal/reflectlite.ValueOf", "(internal/reflectlite.Value).Type", "(internal/reflectlite.Value).IsNil", "internal/reflectlite.TypeOf", "(internal/reflectlite.Value).Elem", "(internal/reflectlite.Value).Set"], unfollowed := true, recurses := true, named := ["errors.errorType"], apart := false, laid := [("errors.errorType", laid_errors_errorType)], narrowed := true }
def FnExactPolygonCountUptoSaid : Prop := fnExactPolygonCountUptoRow.holds Tryd.pinned (OpenSpec.upto fnExactPolygonCountSpec)

/-- 'laws.FnExactPolygonNormals', WHERE WHAT IT READS IS OF BULK AT MOST 1048576: true; the input reads as it did. -/
def fnExactPolygonNormalsUptoRow : OpenClaim := { program := "ytomadlpdlmbmjaadoor", sum := "ddad30b41f1ee44602527559eb63fc929b721cfa841e3029ce3c945ba029a7a4", func := "loop.example/toricfans/laws.FnExactPolygonNormals", spec := "fnExactPolygonNormals", inPlace := ["internal/reflectlite.ValueOf", "(internal/reflectlite.Value).Type", "(internal/reflectlite.Value).IsNil", "internal/reflectlite.TypeOf", "(internal/reflectlite.Value).Elem", "(internal/reflectlite.Value).Set"], unfollowed := true, recurses := true, named := ["errors.errorType"], apart := false, laid := [("errors.errorType", laid_errors_errorType)], narrowed := true }
def FnExactPolygonNormalsUptoSaid : Prop := fnExactPolygonNormalsUptoRow.holds Tryd.pinned (OpenSpec.upto fnExactPolygonNormalsSpec)

end Rows
end Go.Proofs.YtomadlpdlmbmjaaDoor
