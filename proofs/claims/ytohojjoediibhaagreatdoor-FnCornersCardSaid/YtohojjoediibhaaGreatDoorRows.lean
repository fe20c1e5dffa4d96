/-
  NARROWER THAN 'FOR EVERY INPUT', by the rows' own cells (each row's printed sentence says how): FnTrivial: laid · FnDivisorProduct: laid · FnEquivalent: laid · FnSameDegrees: laid · FnPlain: laid · FnEuler: laid · FnGenus: laid · FnCorners: laid · FnArea: laid · FnFanKind: laid.
  DERIVED. THE GIVEN ROWS OF THIS SEAT. 10 by the template 'for every input the law returns true; each argument reads behind the call as it read before'; 0 by the template 'total and deterministic' (their statements: YtohojjoediibhaaGreatDoorTotals.lean).
  GIVEN WITH THE SEED: the statements are not yours to turn. If you find one false, say at which input.
  Laid BY PROGRAM, IN A SANDBOX (cutbox-rows.mjs): the forced cells as the released guide's own fill.sh prints them over the translation 608a44d7cbab7150… (all of the seat's roots in one cut). By AI agents, Wed Nov 11 2026. No macro, syntax, notation, axiom, sorry.
-/
import Derived.Test.YtohojjoediibhaaGreatDoorChecked
import GoSem.Claim
import GoSem.ClaimJoined
import GoSem.ClaimMapViews
import Derived.JoinedTies
import Derived.KernelRfl
namespace Go.Proofs.YtohojjoediibhaaGreatDoor
/- THE CELL 'sum', in the pinned program and in every row, IS THE sha256 OF THE DUMP (.gsa) THAT YtohojjoediibhaaGreatDoorProg.lean LOADS. Nothing in Lean hashes anything: it is a label: what it is worth is what the hold of that sum in a sandbox is worth. -/
noncomputable def Tryz.pinned : Pinned := { name := "ytohojjoediibhaagreatdoor", sum := "608a44d7cbab7150d5ad6f8d32838254ec732fceece5ea37bae9c7a4410c7b49", checked := Tryz.checked }
namespace Rows
def none {H : Type} : Left H := { results := [], args := [] }

/- WHAT THE LISTED PACKAGE-LEVEL VARIABLES READ AS WHEN THE CALL BEGINS. Each datum BY PROGRAM (the guide's laid-datum.mjs) off the statement by which the dump's own 'gosem.cut.vars' lays the variable. In a bare row this is a premise. The card (YtohojjoediibhaaGreatDoorCards.lean) ties it to the program's text. -/
def laid_errors_errorType {H : Type} : DataW H := .iface "internal/reflectlite.rtype" (.agg [.ptr (.lit (.string [101, 114, 114, 111, 114]))])

/-- 'laws.FnTrivial': WHATEVER THE INPUT: true; the input reads as it did. -/
def fnTrivialSpec : ChangeSpec := { name := "fnTrivial", fn := fun _ => fun
  | [d] => { results := [.lit (.bool true)], args := [d] }
  | _ => none }
def fnTrivialRow : OpenClaim := { program := "ytohojjoediibhaagreatdoor", sum := "608a44d7cbab7150d5ad6f8d32838254ec732fceece5ea37bae9c7a4410c7b49", func := "loop.example/toricfans/laws.FnTrivial", spec := "fnTrivial", inPlace := ["internal/reflectlite.ValueOf", "(internal/reflectlite.Value).Type", "(internal/reflectlite.Value).IsNil", "internal/reflectlite.TypeOf", "(internal/reflectlite.Value).Elem", "(internal/reflectlite.Value).Set"], unfollowed := true, recurses := true, named := ["errors.errorType"], apart := false, laid := [("errors.errorType", laid_errors_errorType)] }
def FnTrivialSaid : Prop := fnTrivialRow.holds Tryz.pinned (OpenSpec.ofChange fnTrivialSpec)

/-- ITS FALSE NEIGHBOUR: 'it returns false'. Refute it at one input. -/
def fnTrivialWrong : ChangeSpec := { name := "fnTrivial", fn := fun _ => fun
  | [d] => { results := [.lit (.bool false)], args := [d] }
  | _ => none }
def FnTrivialWrongFalsely : Prop := fnTrivialRow.holds Tryz.pinned (OpenSpec.ofChange fnTrivialWrong)

/-- 'laws.FnDivisorProduct': WHATEVER THE INPUT: true; the input reads as it did. -/
def fnDivisorProductSpec : ChangeSpec := { name := "fnDivisorProduct", fn := fun _ => fun
  | [d] => { results := [.lit (.bool true)], args := [d] }
  | _ => none }
def fnDivisorProductRow : OpenClaim := { program := "ytohojjoediibhaagreatdoor", sum := "608a44d7cbab7150d5ad6f8d32838254ec732fceece5ea37bae9c7a4410c7b49", func := "loop.example/toricfans/laws.FnDivisorProduct", spec := "fnDivisorProduct", inPlace := ["internal/reflectlite.ValueOf", "(internal/reflectlite.Value).Type", "(internal/reflectlite.Value).IsNil", "internal/reflectlite.TypeOf", "(internal/reflectlite.Value).Elem", "(internal/reflectlite.Value).Set"], unfollowed := true, recurses := true, named := ["errors.errorType"], apart := false, laid := [("errors.errorType", laid_errors_errorType)] }
def FnDivisorProductSaid : Prop := fnDivisorProductRow.holds Tryz.pinned (OpenSpec.ofChange fnDivisorProductSpec)

/-- ITS FALSE NEIGHBOUR: 'it returns false'. Refute it at one input. -/
def fnDivisorProductWrong : ChangeSpec := { name := "fnDivisorProduct", fn := fun _ => fun
  | [d] => { results := [.lit (.bool false)], args := [d] }
  | _ => none }
def FnDivisorProductWrongFalsely : Prop := fnDivisorProductRow.holds Tryz.pinned (OpenSpec.ofChange fnDivisorProductWrong)

/-- 'laws.FnEquivalent': WHATEVER THE INPUT: true; the input reads as it did. -/
def fnEquivalentSpec : ChangeSpec := { name := "fnEquivalent", fn := fun _ => fun
  | [d] => { results := [.lit (.bool true)], args := [d] }
  | _ => none }
def fnEquivalentRow : OpenClaim := { program := "ytohojjoediibhaagreatdoor", sum := "608a44d7cbab7150d5ad6f8d32838254ec732fceece5ea37bae9c7a4410c7b49", func := "loop.example/toricfans/laws.FnEquivalent", spec := "fnEquivalent", inPlace := ["internal/reflectlite.ValueOf", "(internal/reflectlite.Value).Type", "(internal/reflectlite.Value).IsNil", "internal/reflectlite.TypeOf", "(internal/reflectlite.Value).Elem", "(internal/reflectlite.Value).Set"], unfollowed := true, recurses := true, named := ["errors.errorType"], apart := false, laid := [("errors.errorType", laid_errors_errorType)] }
def FnEquivalentSaid : Prop := fnEquivalentRow.holds Tryz.pinned (OpenSpec.ofChange fnEquivalentSpec)

/-- ITS FALSE NEIGHBOUR: 'it returns false'. Refute it at one input. -/
def fnEquivalentWrong : ChangeSpec := { name := "fnEquivalent", fn := fun _ => fun
  | [d] => { results := [.lit (.bool false)], args := [d] }
  | _ => none }
def FnEquivalentWrongFalsely : Prop := fnEquivalentRow.holds Tryz.pinned (OpenSpec.ofChange fnEquivalentWrong)

/-- 'laws.FnSameDegrees': WHATEVER THE INPUT: true; the input reads as it did. -/
def fnSameDegreesSpec : ChangeSpec := { name := "fnSameDegrees", fn := fun _ => fun
  | [d] => { results := [.lit (.bool true)], args := [d] }
  | _ => none }
def fnSameDegreesRow : OpenClaim := { program := "ytohojjoediibhaagreatdoor", sum := "608a44d7cbab7150d5ad6f8d32838254ec732fceece5ea37bae9c7a4410c7b49", func := "loop.example/toricfans/laws.FnSameDegrees", spec := "fnSameDegrees", inPlace := ["internal/reflectlite.ValueOf", "(internal/reflectlite.Value).Type", "(internal/reflectlite.Value).IsNil", "internal/reflectlite.TypeOf", "(internal/reflectlite.Value).Elem", "(internal/reflectlite.Value).Set"], unfollowed := true, recurses := true, named := ["errors.errorType"], apart := false, laid := [("errors.errorType", laid_errors_errorType)] }
def FnSameDegreesSaid : Prop := fnSameDegreesRow.holds Tryz.pinned (OpenSpec.ofChange fnSameDegreesSpec)

/-- ITS FALSE NEIGHBOUR: 'it returns false'. Refute it at one input. -/
def fnSameDegreesWrong : ChangeSpec := { name := "fnSameDegrees", fn := fun _ => fun
  | [d] => { results := [.lit (.bool false)], args := [d] }
  | _ => none }
def FnSameDegreesWrongFalsely : Prop := fnSameDegreesRow.holds Tryz.pinned (OpenSpec.ofChange fnSameDegreesWrong)

/-- 'laws.FnPlain': WHATEVER THE INPUT: true; the input reads as it did. -/
def fnPlainSpec : ChangeSpec := { name := "fnPlain", fn := fun _ => fun
  | [d] => { results := [.lit (.bool true)], args := [d] }
  | _ => none }
def fnPlainRow : OpenClaim := { program := "ytohojjoediibhaagreatdoor", sum := "608a44d7cbab7150d5ad6f8d32838254ec732fceece5ea37bae9c7a4410c7b49", func := "loop.example/toricfans/laws.FnPlain", spec := "fnPlain", inPlace := ["internal/reflectlite.ValueOf", "(internal/reflectlite.Value).Type", "(internal/reflectlite.Value).IsNil", "internal/reflectlite.TypeOf", "(internal/reflectlite.Value).Elem", "(internal/reflectlite.Value).Set"], unfollowed := true, recurses := true, named := ["errors.errorType"], apart := false, laid := [("errors.errorType", laid_errors_errorType)] }
def FnPlainSaid : Prop := fnPlainRow.holds Tryz.pinned (OpenSpec.ofChange fnPlainSpec)

/-- ITS FALSE NEIGHBOUR: 'it returns false'. Refute it at one input. -/
def fnPlainWrong : ChangeSpec := { name := "fnPlain", fn := fun _ => fun
  | [d] => { results := [.lit (.bool false)], args := [d] }
  | _ => none }
def FnPlainWrongFalsely : Prop := fnPlainRow.holds Tryz.pinned (OpenSpec.ofChange fnPlainWrong)

/-- 'laws.FnEuler': WHATEVER THE INPUT: true; the input reads as it did. -/
def fnEulerSpec : ChangeSpec := { name := "fnEuler", fn := fun _ => fun
  | [d] => { results := [.lit (.bool true)], args := [d] }
  | _ => none }
def fnEulerRow : OpenClaim := { program := "ytohojjoediibhaagreatdoor", sum := "608a44d7cbab7150d5ad6f8d32838254ec732fceece5ea37bae9c7a4410c7b49", func := "loop.example/toricfans/laws.FnEuler", spec := "fnEuler", inPlace := ["internal/reflectlite.ValueOf", "(internal/reflectlite.Value).Type", "(internal/reflectlite.Value).IsNil", "internal/reflectlite.TypeOf", "(internal/reflectlite.Value).Elem", "(internal/reflectlite.Value).Set"], unfollowed := true, recurses := true, named := ["errors.errorType"], apart := false, laid := [("errors.errorType", laid_errors_errorType)] }
def FnEulerSaid : Prop := fnEulerRow.holds Tryz.pinned (OpenSpec.ofChange fnEulerSpec)

/-- ITS FALSE NEIGHBOUR: 'it returns false'. Refute it at one input. -/
def fnEulerWrong : ChangeSpec := { name := "fnEuler", fn := fun _ => fun
  | [d] => { results := [.lit (.bool false)], args := [d] }
  | _ => none }
def FnEulerWrongFalsely : Prop := fnEulerRow.holds Tryz.pinned (OpenSpec.ofChange fnEulerWrong)

/-- 'laws.FnGenus': WHATEVER THE INPUT: true; the input reads as it did. -/
def fnGenusSpec : ChangeSpec := { name := "fnGenus", fn := fun _ => fun
  | [d] => { results := [.lit (.bool true)], args := [d] }
  | _ => none }
def fnGenusRow : OpenClaim := { program := "ytohojjoediibhaagreatdoor", sum := "608a44d7cbab7150d5ad6f8d32838254ec732fceece5ea37bae9c7a4410c7b49", func := "loop.example/toricfans/laws.FnGenus", spec := "fnGenus", inPlace := ["internal/reflectlite.ValueOf", "(internal/reflectlite.Value).Type", "(internal/reflectlite.Value).IsNil", "internal/reflectlite.TypeOf", "(internal/reflectlite.Value).Elem", "(internal/reflectlite.Value).Set"], unfollowed := true, recurses := true, named := ["errors.errorType"], apart := false, laid := [("errors.errorType", laid_errors_errorType)] }
def FnGenusSaid : Prop := fnGenusRow.holds Tryz.pinned (OpenSpec.ofChange fnGenusSpec)

/-- ITS FALSE NEIGHBOUR: 'it returns false'. Refute it at one input. -/
def fnGenusWrong : ChangeSpec := { name := "fnGenus", fn := fun _ => fun
  | [d] => { results := [.lit (.bool false)], args := [d] }
  | _ => none }
def FnGenusWrongFalsely : Prop := fnGenusRow.holds Tryz.pinned (OpenSpec.ofChange fnGenusWrong)

/-- 'laws.FnCorners': WHATEVER THE INPUT: true; the input reads as it did. -/
def fnCornersSpec : ChangeSpec := { name := "fnCorners", fn := fun _ => fun
  | [d] => { results := [.lit (.bool true)], args := [d] }
  | _ => none }
def fnCornersRow : OpenClaim := { program := "ytohojjoediibhaagreatdoor", sum := "608a44d7cbab7150d5ad6f8d32838254ec732fceece5ea37bae9c7a4410c7b49", func := "loop.example/toricfans/laws.FnCorners", spec := "fnCorners", inPlace := ["internal/reflectlite.ValueOf", "(internal/reflectlite.Value).Type", "(internal/reflectlite.Value).IsNil", "internal/reflectlite.TypeOf", "(internal/reflectlite.Value).Elem", "(internal/reflectlite.Value).Set"], unfollowed := true, recurses := true, named := ["errors.errorType"], apart := false, laid := [("errors.errorType", laid_errors_errorType)] }
def FnCornersSaid : Prop := fnCornersRow.holds Tryz.pinned (OpenSpec.ofChange fnCornersSpec)

/-- ITS FALSE NEIGHBOUR: 'it returns false'. Refute it at one input. -/
def fnCornersWrong : ChangeSpec := { name := "fnCorners", fn := fun _ => fun
  | [d] => { results := [.lit (.bool false)], args := [d] }
  | _ => none }
def FnCornersWrongFalsely : Prop := fnCornersRow.holds Tryz.pinned (OpenSpec.ofChange fnCornersWrong)

/-- 'laws.FnArea': WHATEVER THE INPUT: true; the input reads as it did. -/
def fnAreaSpec : ChangeSpec := { name := "fnArea", fn := fun _ => fun
  | [d] => { results := [.lit (.bool true)], args := [d] }
  | _ => none }
def fnAreaRow : OpenClaim := { program := "ytohojjoediibhaagreatdoor", sum := "608a44d7cbab7150d5ad6f8d32838254ec732fceece5ea37bae9c7a4410c7b49", func := "loop.example/toricfans/laws.FnArea", spec := "fnArea", inPlace := ["internal/reflectlite.ValueOf", "(internal/reflectlite.Value).Type", "(internal/reflectlite.Value).IsNil", "internal/reflectlite.TypeOf", "(internal/reflectlite.Value).Elem", "(internal/reflectlite.Value).Set"], unfollowed := true, recurses := true, named := ["errors.errorType"], apart := false, laid := [("errors.errorType", laid_errors_errorType)] }
def FnAreaSaid : Prop := fnAreaRow.holds Tryz.pinned (OpenSpec.ofChange fnAreaSpec)

/-- ITS FALSE NEIGHBOUR: 'it returns false'. Refute it at one input. -/
def fnAreaWrong : ChangeSpec := { name := "fnArea", fn := fun _ => fun
  | [d] => { results := [.lit (.bool false)], args := [d] }
  | _ => none }
def FnAreaWrongFalsely : Prop := fnAreaRow.holds Tryz.pinned (OpenSpec.ofChange fnAreaWrong)

/-- 'laws.FnFanKind': WHATEVER THE INPUT: true; the input reads as it did. -/
def fnFanKindSpec : ChangeSpec := { name := "fnFanKind", fn := fun _ => fun
  | [d] => { results := [.lit (.bool true)], args := [d] }
  | _ => none }
def fnFanKindRow : OpenClaim := { program := "ytohojjoediibhaagreatdoor", sum := "608a44d7cbab7150d5ad6f8d32838254ec732fceece5ea37bae9c7a4410c7b49", func := "loop.example/toricfans/laws.FnFanKind", spec := "fnFanKind", inPlace := ["internal/reflectlite.ValueOf", "(internal/reflectlite.Value).Type", "(internal/reflectlite.Value).IsNil", "internal/reflectlite.TypeOf", "(internal/reflectlite.Value).Elem", "(internal/reflectlite.Value).Set"], unfollowed := true, recurses := true, named := ["errors.errorType"], apart := false, laid := [("errors.errorType", laid_errors_errorType)] }
def FnFanKindSaid : Prop := fnFanKindRow.holds Tryz.pinned (OpenSpec.ofChange fnFanKindSpec)

/-- ITS FALSE NEIGHBOUR: 'it returns false'. Refute it at one input. -/
def fnFanKindWrong : ChangeSpec := { name := "fnFanKind", fn := fun _ => fun
  | [d] => { results := [.lit (.bool false)], args := [d] }
  | _ => none }
def FnFanKindWrongFalsely : Prop := fnFanKindRow.holds Tryz.pinned (OpenSpec.ofChange fnFanKindWrong)

/- THE SECOND FORM. 'bulk': how many values and letters a reading holds, each counted each time it is reached (what is shared counts as often as it is met; a slice's spare places count too). A statement '..UptoSaid' is the law's where the arguments, and the package variables that the reading takes, are together of bulk at most 1048576: NARROWER than '..Said'. Prove '..Said' where nothing that the law and all that it calls make is longer than what came in: it says more and counts as full. Else prove '..UptoSaid'. A law counts once. -/
mutual
def uptoBulk {H : Type} : DataW H → Nat
  | .lit (.string bytes) => bytes.length + 1
  | .lit _ => 1
  | .nil => 1
  | .ptr d => uptoBulk d + 1
  | .slice elems spare => uptoBulkAll elems + uptoBulkAll spare + 1
  | .agg parts => uptoBulkAll parts + 1
  | .iface _ d => uptoBulk d + 1
  | .map entries => uptoBulkEntries entries + 1
  | .held _ => 1
def uptoBulkAll {H : Type} : List (DataW H) → Nat
  | [] => 0
  | d :: r => uptoBulk d + uptoBulkAll r
def uptoBulkEntries {H : Type} : List (Lit × DataW H) → Nat
  | [] => 0
  | x :: r => uptoBulkEntry x + uptoBulkEntries r
def uptoBulkEntry {H : Type} : Lit × DataW H → Nat
  | (.string bytes, d) => bytes.length + uptoBulk d + 1
  | (_, d) => uptoBulk d + 1
 end
def uptoSmall : (H : Type) → List (DataW H) → Bool := fun _ ds => decide (uptoBulkAll ds ≤ 1048576)
def OpenSpec.upto (s : _root_.Go.ChangeSpec) : _root_.Go.OpenSpec := { _root_.Go.OpenSpec.ofChange s with cond := some uptoSmall }

/-- 'laws.FnTrivial', WHERE WHAT IT READS IS OF BULK AT MOST 1048576: true; the input reads as it did. -/
def fnTrivialUptoRow : OpenClaim := { program := "ytohojjoediibhaagreatdoor", sum := "608a44d7cbab7150d5ad6f8d32838254ec732fceece5ea37bae9c7a4410c7b49", func := "loop.example/toricfans/laws.FnTrivial", spec := "fnTrivial", inPlace := ["internal/reflectlite.ValueOf", "(internal/reflectlite.Value).Type", "(internal/reflectlite.Value).IsNil", "internal/reflectlite.TypeOf", "(internal/reflectlite.Value).Elem", "(internal/reflectlite.Value).Set"], unfollowed := true, recurses := true, named := ["errors.errorType"], apart := false, laid := [("errors.errorType", laid_errors_errorType)], narrowed := true }
def FnTrivialUptoSaid : Prop := fnTrivialUptoRow.holds Tryz.pinned (OpenSpec.upto fnTrivialSpec)

/-- 'laws.FnDivisorProduct', WHERE WHAT IT READS IS OF BULK AT MOST 1048576: true; the input reads as it did. -/
def fnDivisorProductUptoRow : OpenClaim := { program := "ytohojjoediibhaagreatdoor", sum := "608a44d7cbab7150d5ad6f8d32838254ec732fceece5ea37bae9c7a4410c7b49", func := "loop.example/toricfans/laws.FnDivisorProduct", spec := "fnDivisorProduct", inPlace := ["internal/reflectlite.ValueOf", "(internal/reflectlite.Value).Type", "(internal/reflectlite.Value).IsNil", "internal/reflectlite.TypeOf", "(internal/reflectlite.Value).Elem", "(internal/reflectlite.Value).Set"], unfollowed := true, recurses := true, named := ["errors.errorType"], apart := false, laid := [("errors.errorType", laid_errors_errorType)], narrowed := true }
def FnDivisorProductUptoSaid : Prop := fnDivisorProductUptoRow.holds Tryz.pinned (OpenSpec.upto fnDivisorProductSpec)

/-- 'laws.FnEquivalent', WHERE WHAT IT READS IS OF BULK AT MOST 1048576: true; the input reads as it did. -/
def fnEquivalentUptoRow : OpenClaim := { program := "ytohojjoediibhaagreatdoor", sum := "608a44d7cbab7150d5ad6f8d32838254ec732fceece5ea37bae9c7a4410c7b49", func := "loop.example/toricfans/laws.FnEquivalent", spec := "fnEquivalent", inPlace := ["internal/reflectlite.ValueOf", "(internal/reflectlite.Value).Type", "(internal/reflectlite.Value).IsNil", "internal/reflectlite.TypeOf", "(internal/reflectlite.Value).Elem", "(internal/reflectlite.Value).Set"], unfollowed := true, recurses := true, named := ["errors.errorType"], apart := false, laid := [("errors.errorType", laid_errors_errorType)], narrowed := true }
def FnEquivalentUptoSaid : Prop := fnEquivalentUptoRow.holds Tryz.pinned (OpenSpec.upto fnEquivalentSpec)

/-- 'laws.FnSameDegrees', WHERE WHAT IT READS IS OF BULK AT MOST 1048576: true; the input reads as it did. -/
def fnSameDegreesUptoRow : OpenClaim := { program := "ytohojjoediibhaagreatdoor", sum := "608a44d7cbab7150d5ad6f8d32838254ec732fceece5ea37bae9c7a4410c7b49", func := "loop.example/toricfans/laws.FnSameDegrees", spec := "fnSameDegrees", inPlace := ["internal/reflectlite.ValueOf", "(internal/reflectlite.Value).Type", "(internal/reflectlite.Value).IsNil", "internal/reflectlite.TypeOf", "(internal/reflectlite.Value).Elem", "(internal/reflectlite.Value).Set"], unfollowed := true, recurses := true, named := ["errors.errorType"], apart := false, laid := [("errors.errorType", laid_errors_errorType)], narrowed := true }
def FnSameDegreesUptoSaid : Prop := fnSameDegreesUptoRow.holds Tryz.pinned (OpenSpec.upto fnSameDegreesSpec)

/-- 'laws.FnPlain', WHERE WHAT IT READS IS OF BULK AT MOST 1048576: true; the input reads as it did. -/
def fnPlainUptoRow : OpenClaim := { program := "ytohojjoediibhaagreatdoor", sum := "608a44d7cbab7150d5ad6f8d32838254ec732fceece5ea37bae9c7a4410c7b49", func := "loop.example/toricfans/laws.FnPlain", spec := "fnPlain", inPlace := ["internal/reflectlite.ValueOf", "(internal/reflectlite.Value).Type", "(internal/reflectlite.Value).IsNil", "internal/reflectlite.TypeOf", "(internal/reflectlite.Value).Elem", "(internal/reflectlite.Value).Set"], unfollowed := true, recurses := true, named := ["errors.errorType"], apart := false, laid := [("errors.errorType", laid_errors_errorType)], narrowed := true }
def FnPlainUptoSaid : Prop := fnPlainUptoRow.holds Tryz.pinned (OpenSpec.upto fnPlainSpec)

/-- 'laws.FnEuler', WHERE WHAT IT READS IS OF BULK AT MOST 1048576: true; the input reads as it did. -/
def fnEulerUptoRow : OpenClaim := { program := "ytohojjoediibhaagreatdoor", sum := "608a44d7cbab7150d5ad6f8d32838254ec732fceece5ea37bae9c7a4410c7b49", func := "loop.example/toricfans/laws.FnEuler", spec := "fnEuler", inPlace := ["internal/reflectlite.ValueOf", "(internal/reflectlite.Value).Type", "(internal/reflectlite.Value).IsNil", "internal/reflectlite.TypeOf", "(internal/reflectlite.Value).Elem", "(internal/reflectlite.Value).Set"], unfollowed := true, recurses := true, named := ["errors.errorType"], apart := false, laid := [("errors.errorType", laid_errors_errorType)], narrowed := true }
def FnEulerUptoSaid : Prop := fnEulerUptoRow.holds Tryz.pinned (OpenSpec.upto fnEulerSpec)

/-- 'laws.FnGenus', WHERE WHAT IT READS IS OF BULK AT MOST 1048576: true; the input reads as it did. -/
def fnGenusUptoRow : OpenClaim := { program := "ytohojjoediibhaagreatdoor", sum := "608a44d7cbab7150d5ad6f8d32838254ec732fceece5ea37bae9c7a4410c7b49", func := "loop.example/toricfans/laws.FnGenus", spec := "fnGenus", inPlace := ["internal/reflectlite.ValueOf", "(internal/reflectlite.Value).Type", "(internal/reflectlite.Value).IsNil", "internal/reflectlite.TypeOf", "(internal/reflectlite.Value).Elem", "(internal/reflectlite.Value).Set"], unfollowed := true, recurses := true, named := ["errors.errorType"], apart := false, laid := [("errors.errorType", laid_errors_errorType)], narrowed := true }
def FnGenusUptoSaid : Prop := fnGenusUptoRow.holds Tryz.pinned (OpenSpec.upto fnGenusSpec)

/-- 'laws.FnCorners', WHERE WHAT IT READS IS OF BULK AT MOST 1048576: true; the input reads as it did. -/
def fnCornersUptoRow : OpenClaim := { program := "ytohojjoediibhaagreatdoor", sum := "608a44d7cbab7150d5ad6f8d32838254ec732fceece5ea37bae9c7a4410c7b49", func := "loop.example/toricfans/laws.FnCorners", spec := "fnCorners", inPlace := ["internal/reflectlite.ValueOf", "(internal/reflectlite.Value).Type", "(internal/reflectlite.Value).IsNil", "internal/reflectlite.TypeOf", "(internal/reflectlite.Value).Elem", "(internal/reflectlite.Value).Set"], unfollowed := true, recurses := true, named := ["errors.errorType"], apart := false, laid := [("errors.errorType", laid_errors_errorType)], narrowed := true }
def FnCornersUptoSaid : Prop := fnCornersUptoRow.holds Tryz.pinned (OpenSpec.upto fnCornersSpec)

/-- 'laws.FnArea', WHERE WHAT IT READS IS OF BULK AT MOST 1048576: true; the input reads as it did. -/
def fnAreaUptoRow : OpenClaim := { program := "ytohojjoediibhaagreatdoor", sum := "608a44d7cbab7150d5ad6f8d32838254ec732fceece5ea37bae9c7a4410c7b49", func := "loop.example/toricfans/laws.FnArea", spec := "fnArea", inPlace := ["internal/reflectlite.ValueOf", "(internal/reflectlite.Value).Type", "(internal/reflectlite.Value).IsNil", "internal/reflectlite.TypeOf", "(internal/reflectlite.Value).Elem", "(internal/reflectlite.Value).Set"], unfollowed := true, recurses := true, named := ["errors.errorType"], apart := false, laid := [("errors.errorType", laid_errors_errorType)], narrowed := true }
def FnAreaUptoSaid : Prop := fnAreaUptoRow.holds Tryz.pinned (OpenSpec.upto fnAreaSpec)

/-- 'laws.FnFanKind', WHERE WHAT IT READS IS OF BULK AT MOST 1048576: true; the input reads as it did. -/
def fnFanKindUptoRow : OpenClaim := { program := "ytohojjoediibhaagreatdoor", sum := "608a44d7cbab7150d5ad6f8d32838254ec732fceece5ea37bae9c7a4410c7b49", func := "loop.example/toricfans/laws.FnFanKind", spec := "fnFanKind", inPlace := ["internal/reflectlite.ValueOf", "(internal/reflectlite.Value).Type", "(internal/reflectlite.Value).IsNil", "internal/reflectlite.TypeOf", "(internal/reflectlite.Value).Elem", "(internal/reflectlite.Value).Set"], unfollowed := true, recurses := true, named := ["errors.errorType"], apart := false, laid := [("errors.errorType", laid_errors_errorType)], narrowed := true }
def FnFanKindUptoSaid : Prop := fnFanKindUptoRow.holds Tryz.pinned (OpenSpec.upto fnFanKindSpec)

end Rows
end Go.Proofs.YtohojjoediibhaaGreatDoor
