import Derived.Test.YtgaeibibeekclabGreatDoorCards
import Derived.Test.YtgaeibibeekclabGreatDoorTie
import Derived.Test.YtgaeibibeekclabGreatDoorS01
import Derived.Deep.DeepHandedRow
import Derived.Lib.SmallJoins
namespace Go.Proofs.YtgaeibibeekclabGreatDoor
open Go.ChangeShapes Go.WideShapes Go.ChangeAt Go.RowKit Go.Joins
theorem own : ownKnob Tryz.prog.godebug = none := by kernel_rfl
theorem gEt : Tryz.prog.globalNamed "errors.errorType" = some 0 := by kernel_rfl
theorem rtEt : (Tryz.prog.cutTypes.find? (·.1 == "internal/reflectlite.rtype")).map (·.2) = some 142 := by kernel_rfl
theorem oneRow : ((List.range 211).filter fun t => Tryz.prog.rowNamed t [101, 114, 114, 111, 114]) = [49] := by kernel_rfl
theorem tsize : Tryz.prog.types.size = 211 := by kernel_rfl
theorem et_of_laid {W : World} (h : laidMetH Tryz.prog [("errors.errorType", Rows.laid_errors_errorType)] W) : EtOk W := by
  have h' : laidMet Tryz.prog [] W ∧ handlesMet Tryz.prog [("errors.errorType", Rows.laid_errors_errorType)] W := h
  obtain ⟨name, u, ty, e1, e2, e3, e4, e5⟩ := h'.2 _ (List.mem_singleton.2 rfl)
  have en : name = [101, 114, 114, 111, 114] := (Option.some.inj e1).symm
  subst en
  obtain rfl := Option.some.inj (rtEt.symm.trans e2)
  have hm : ty ∈ (List.range 211).filter fun t => Tryz.prog.rowNamed t [101, 114, 114, 111, 114] := List.mem_filter.2 ⟨List.mem_range.2 (by rw [← tsize]; exact e3), e4⟩
  rw [oneRow] at hm
  obtain rfl := List.mem_singleton.1 hm
  have hh : typeHandle Tryz.prog 49 = .pointer (some ⟨1, 49, none⟩) := by kernel_rfl
  rw [hh] at e5
  simpa [EtOk] using World.var?_cell gEt e5 0
/-- A world that meets the list: the settled one, the variable's cell laid. -/
noncomputable def laidWorld (os : Os) : World :=
  { World.holding Tryz.prog os ⟨#[], #[], []⟩ with heap := (World.holding Tryz.prog os ⟨#[], #[], []⟩).heap.modify 0 fun
      | .cells _ t frozen => .cells #[.iface 142 (.agg #[.pointer (some ⟨1, 49, none⟩)])] t frozen
      | o => o }
theorem laidWorld_met (os : Os) (args : Array Value) : laidMetH Tryz.prog [("errors.errorType", Rows.laid_errors_errorType)] ((laidWorld os).forCall (fun _ _ => 0) ⟨#[], args, []⟩).memory :=
  laidMetH_of_parts (laidMet_nil _ _) (by kernel_rfl)
section
variable {H : Type} {enc : TypeId × Value → H} {P : Program}
end
section
variable {H : Type} {enc : TypeId × Value → H} {W : World}
end
end Go.Proofs.YtgaeibibeekclabGreatDoor
namespace Go.Proofs.YtgaeibibeekclabGreatDoor
open Go.RowKit Go.Joins
def initC : List Nat := [104, 97, 114, 110, 101, 115, 115, 32, 100, 56, 100, 56, 100, 48, 97, 52, 100, 54, 98, 51, 97, 52, 97, 48, 55, 53, 49, 54, 101, 57, 55, 99, 52, 57, 53, 102, 98, 49, 99, 97, 97, 99, 49, 101, 52, 52, 55, 50, 52, 52, 102, 100, 98, 48, 48, 98, 53, 52, 56, 48, 100, 97, 100, 53, 53, 55, 49, 48, 48, 54, 102, 99, 32, 99, 117, 116, 32, 97, 116, 32, 108, 111, 111, 112, 46, 101, 120, 97, 109, 112, 108, 101, 47, 116, 111, 114, 105, 99, 102, 97, 110, 115, 47, 108, 97, 119, 115, 46, 70, 110, 82, 101, 102, 108, 101, 120, 105, 118, 101, 32, 108, 111, 111, 112, 46, 101, 120, 97, 109, 112, 108, 101, 47, 116, 111, 114, 105, 99, 102, 97, 110, 115, 47, 108, 97, 119, 115, 46, 70, 110, 82, 101, 102, 108, 101, 120, 105, 118, 101, 68, 117, 97, 108, 32, 108, 111, 111, 112, 46, 101, 120, 97, 109, 112, 108, 101, 47, 116, 111, 114, 105, 99, 102, 97, 110, 115, 47, 108, 97, 119, 115, 46, 70, 110, 84, 119, 101, 108, 118, 101, 32, 108, 111, 111, 112, 46, 101, 120, 97, 109, 112, 108, 101, 47, 116, 111, 114, 105, 99, 102, 97, 110, 115, 47, 108, 97, 119, 115, 46, 70, 110, 82, 101, 102, 108, 101, 120, 105, 118, 101, 70, 97, 110, 32, 108, 111, 111, 112, 46, 101, 120, 97, 109, 112, 108, 101, 47, 116, 111, 114, 105, 99, 102, 97, 110, 115, 47, 108, 97, 119, 115, 46, 70, 110, 82, 101, 102, 108, 101, 120, 105, 118, 101, 78, 117, 109, 98, 101, 114, 115]
def initV : List (List Nat) := [[104, 97, 114, 110, 101, 115, 115], [100, 56, 100, 56, 100, 48, 97, 52, 100, 54, 98, 51, 97, 52, 97, 48, 55, 53, 49, 54, 101, 57, 55, 99, 52, 57, 53, 102, 98, 49, 99, 97, 97, 99, 49, 101, 52, 52, 55, 50, 52, 52, 102, 100, 98, 48, 48, 98, 53, 52, 56, 48, 100, 97, 100, 53, 53, 55, 49, 48, 48, 54, 102, 99], [99, 117, 116], [97, 116], [108, 111, 111, 112, 46, 101, 120, 97, 109, 112, 108, 101, 47, 116, 111, 114, 105, 99, 102, 97, 110, 115, 47, 108, 97, 119, 115, 46, 70, 110, 82, 101, 102, 108, 101, 120, 105, 118, 101], [108, 111, 111, 112, 46, 101, 120, 97, 109, 112, 108, 101, 47, 116, 111, 114, 105, 99, 102, 97, 110, 115, 47, 108, 97, 119, 115, 46, 70, 110, 82, 101, 102, 108, 101, 120, 105, 118, 101, 68, 117, 97, 108], [108, 111, 111, 112, 46, 101, 120, 97, 109, 112, 108, 101, 47, 116, 111, 114, 105, 99, 102, 97, 110, 115, 47, 108, 97, 119, 115, 46, 70, 110, 84, 119, 101, 108, 118, 101], [108, 111, 111, 112, 46, 101, 120, 97, 109, 112, 108, 101, 47, 116, 111, 114, 105, 99, 102, 97, 110, 115, 47, 108, 97, 119, 115, 46, 70, 110, 82, 101, 102, 108, 101, 120, 105, 118, 101, 70, 97, 110], [108, 111, 111, 112, 46, 101, 120, 97, 109, 112, 108, 101, 47, 116, 111, 114, 105, 99, 102, 97, 110, 115, 47, 108, 97, 119, 115, 46, 70, 110, 82, 101, 102, 108, 101, 120, 105, 118, 101, 78, 117, 109, 98, 101, 114, 115]]
theorem init_lit : Tryz.pinned.checked.prog.initOrder = String.ofList (initC.map Char.ofNat) := by kernel_rfl
theorem init_chars : Tryz.pinned.checked.prog.initOrder.toList = initC.map Char.ofNat := by rw [init_lit]; exact String.toList_ofList
theorem init_all : wordsSigns Tryz.pinned.checked.prog.initOrder.toList = initV.map (·.map Char.ofNat) := by rw [init_chars]; kernel_rfl
theorem init_words : behindMainWord (wordsSigns Tryz.pinned.checked.prog.initOrder.toList) = (initV.drop 2).map (·.map Char.ofNat) := by rw [init_all]; kernel_rfl
def mayS (P : Program) (ws : List (List Char)) (h : behindMainWord (wordsSigns P.initOrder.toList) = ws) : Σ' b : Bool, P.mayEnter = b := by
  refine ⟨?b, ?h⟩
  case h =>
    unfold Program.mayEnter
    rw [h]
theorem may_enter : Tryz.pinned.checked.prog.mayEnter = true := (mayS Tryz.pinned.checked.prog _ init_words).2.trans (by kernel_rfl)
def headS (P : Program) (ws : List (List Char)) (h : behindMainWord (wordsSigns P.initOrder.toList) = ws) : Σ' b : List String, P.headLifts = b := by
  refine ⟨?b, ?h⟩
  case h =>
    unfold Program.headLifts
    rw [h]
theorem head_lifts : Tryz.pinned.checked.prog.headLifts = [] := (headS Tryz.pinned.checked.prog _ init_words).2.trans (by kernel_rfl)
def finS (P : Program) (ws : List (List Char)) (h : behindMainWord (wordsSigns P.initOrder.toList) = ws) (h2 : P.headLifts = []) : Σ' b : Bool, P.liftsFinal = b := by
  refine ⟨?b, ?h⟩
  case h =>
    unfold Program.liftsFinal
    rw [h, h2]
theorem lifts_final : Tryz.pinned.checked.prog.liftsFinal = false := (finS Tryz.pinned.checked.prog _ init_words head_lifts).2.trans (by kernel_rfl)
def makeS (P : Program) (ws : List (List Char)) (h : behindMainWord (wordsSigns P.initOrder.toList) = ws) : Σ' b : Option Make, P.make = b := by
  refine ⟨?b, ?h⟩
  case h =>
    unfold Program.make
    rw [h]
theorem make_is : Tryz.pinned.checked.prog.make = some .cut := (makeS Tryz.pinned.checked.prog _ init_words).2.trans (by kernel_rfl)
def mainS (P : Program) (ws : List (List Char)) (h : wordsSigns P.initOrder.toList = ws) : Σ' b : Option (Bool × List Char), P.mainIs = b := by
  refine ⟨?b, ?h⟩
  case h =>
    unfold Program.mainIs
    rw [h]
theorem main_is : Tryz.pinned.checked.prog.mainIs = some (true, "d8d8d0a4d6b3a4a07516e97c495fb1caac1e447244fdb00b5480dad5571006fc".toList) := (mainS Tryz.pinned.checked.prog _ init_all).2.trans (by kernel_rfl)
def joinS (P : Program) (f : FuncId) (fn : Func) (s : ChangeSpec) (c : OpenClaim) (hm : P.mayEnter = true) (hl : P.liftsFinal = false) (hk : P.make = some .cut) : Σ' b : Bool, joinedFacts P f fn s c = b := by
  refine ⟨?b, ?h⟩
  case h =>
    unfold joinedFacts
    rw [hm, hl, hk]
end Go.Proofs.YtgaeibibeekclabGreatDoor
