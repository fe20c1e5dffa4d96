/- What every law's row asks of the words at the program's head, reckoned once for a seat. -/
import Derived.Test.YtdlofnkimikaiaaDoorRow
namespace Go.Proofs.YtdlofnkimikaiaaDoor
open Go.RowKit Go.Joins

def initC : List Nat := [104, 97, 114, 110, 101, 115, 115, 32, 98, 51, 54, 48, 98, 51, 102, 49, 101, 53, 50, 51, 97, 57, 56, 55, 100, 100, 99, 97, 48, 50, 50, 101, 97, 98, 97, 50, 56, 54, 99, 57, 56, 98, 101, 50, 52, 99, 97, 102, 101, 48, 48, 57, 53, 49, 48, 51, 56, 97, 53, 98, 53, 53, 53, 50, 53, 99, 49, 99, 55, 99, 97, 52, 32, 99, 117, 116, 32, 97, 116, 32, 108, 111, 111, 112, 46, 101, 120, 97, 109, 112, 108, 101, 47, 116, 111, 114, 105, 99, 102, 97, 110, 115, 47, 108, 97, 119, 115, 46, 70, 110, 70, 97, 110, 32, 108, 111, 111, 112, 46, 101, 120, 97, 109, 112, 108, 101, 47, 116, 111, 114, 105, 99, 102, 97, 110, 115, 47, 108, 97, 119, 115, 46, 70, 110, 84, 105, 100, 121, 32, 108, 111, 111, 112, 46, 101, 120, 97, 109, 112, 108, 101, 47, 116, 111, 114, 105, 99, 102, 97, 110, 115, 47, 108, 97, 119, 115, 46, 70, 110, 70, 97, 110, 79, 102, 32, 108, 111, 111, 112, 46, 101, 120, 97, 109, 112, 108, 101, 47, 116, 111, 114, 105, 99, 102, 97, 110, 115, 47, 108, 97, 119, 115, 46, 70, 110, 83, 109, 111, 111, 116, 104, 32, 108, 111, 111, 112, 46, 101, 120, 97, 109, 112, 108, 101, 47, 116, 111, 114, 105, 99, 102, 97, 110, 115, 47, 108, 97, 119, 115, 46, 70, 110, 70, 97, 110, 67, 111, 110, 101, 32, 108, 111, 111, 112, 46, 101, 120, 97, 109, 112, 108, 101, 47, 116, 111, 114, 105, 99, 102, 97, 110, 115, 47, 108, 97, 119, 115, 46, 70, 110, 87, 104, 101, 114, 101, 32, 108, 111, 111, 112, 46, 101, 120, 97, 109, 112, 108, 101, 47, 116, 111, 114, 105, 99, 102, 97, 110, 115, 47, 108, 97, 119, 115, 46, 70, 110, 68, 111, 119, 110, 32, 108, 111, 111, 112, 46, 101, 120, 97, 109, 112, 108, 101, 47, 116, 111, 114, 105, 99, 102, 97, 110, 115, 47, 108, 97, 119, 115, 46, 70, 110, 76, 101, 97, 115, 116, 32, 108, 111, 111, 112, 46, 101, 120, 97, 109, 112, 108, 101, 47, 116, 111, 114, 105, 99, 102, 97, 110, 115, 47, 108, 97, 119, 115, 46, 70, 110, 82, 101, 115, 111, 108, 118, 101, 32, 108, 111, 111, 112, 46, 101, 120, 97, 109, 112, 108, 101, 47, 116, 111, 114, 105, 99, 102, 97, 110, 115, 47, 108, 97, 119, 115, 46, 70, 110, 66, 117, 105, 108, 100]
def initV : List (List Nat) := [[104, 97, 114, 110, 101, 115, 115], [98, 51, 54, 48, 98, 51, 102, 49, 101, 53, 50, 51, 97, 57, 56, 55, 100, 100, 99, 97, 48, 50, 50, 101, 97, 98, 97, 50, 56, 54, 99, 57, 56, 98, 101, 50, 52, 99, 97, 102, 101, 48, 48, 57, 53, 49, 48, 51, 56, 97, 53, 98, 53, 53, 53, 50, 53, 99, 49, 99, 55, 99, 97, 52], [99, 117, 116], [97, 116], [108, 111, 111, 112, 46, 101, 120, 97, 109, 112, 108, 101, 47, 116, 111, 114, 105, 99, 102, 97, 110, 115, 47, 108, 97, 119, 115, 46, 70, 110, 70, 97, 110], [108, 111, 111, 112, 46, 101, 120, 97, 109, 112, 108, 101, 47, 116, 111, 114, 105, 99, 102, 97, 110, 115, 47, 108, 97, 119, 115, 46, 70, 110, 84, 105, 100, 121], [108, 111, 111, 112, 46, 101, 120, 97, 109, 112, 108, 101, 47, 116, 111, 114, 105, 99, 102, 97, 110, 115, 47, 108, 97, 119, 115, 46, 70, 110, 70, 97, 110, 79, 102], [108, 111, 111, 112, 46, 101, 120, 97, 109, 112, 108, 101, 47, 116, 111, 114, 105, 99, 102, 97, 110, 115, 47, 108, 97, 119, 115, 46, 70, 110, 83, 109, 111, 111, 116, 104], [108, 111, 111, 112, 46, 101, 120, 97, 109, 112, 108, 101, 47, 116, 111, 114, 105, 99, 102, 97, 110, 115, 47, 108, 97, 119, 115, 46, 70, 110, 70, 97, 110, 67, 111, 110, 101], [108, 111, 111, 112, 46, 101, 120, 97, 109, 112, 108, 101, 47, 116, 111, 114, 105, 99, 102, 97, 110, 115, 47, 108, 97, 119, 115, 46, 70, 110, 87, 104, 101, 114, 101], [108, 111, 111, 112, 46, 101, 120, 97, 109, 112, 108, 101, 47, 116, 111, 114, 105, 99, 102, 97, 110, 115, 47, 108, 97, 119, 115, 46, 70, 110, 68, 111, 119, 110], [108, 111, 111, 112, 46, 101, 120, 97, 109, 112, 108, 101, 47, 116, 111, 114, 105, 99, 102, 97, 110, 115, 47, 108, 97, 119, 115, 46, 70, 110, 76, 101, 97, 115, 116], [108, 111, 111, 112, 46, 101, 120, 97, 109, 112, 108, 101, 47, 116, 111, 114, 105, 99, 102, 97, 110, 115, 47, 108, 97, 119, 115, 46, 70, 110, 82, 101, 115, 111, 108, 118, 101], [108, 111, 111, 112, 46, 101, 120, 97, 109, 112, 108, 101, 47, 116, 111, 114, 105, 99, 102, 97, 110, 115, 47, 108, 97, 119, 115, 46, 70, 110, 66, 117, 105, 108, 100]]
theorem init_lit : Tryd.pinned.checked.prog.initOrder = String.ofList (initC.map Char.ofNat) := by kernel_rfl
theorem init_chars : Tryd.pinned.checked.prog.initOrder.toList = initC.map Char.ofNat := by rw [init_lit]; exact String.toList_ofList
theorem init_all : wordsSigns Tryd.pinned.checked.prog.initOrder.toList = initV.map (·.map Char.ofNat) := by rw [init_chars]; kernel_rfl
theorem init_words : behindMainWord (wordsSigns Tryd.pinned.checked.prog.initOrder.toList) = (initV.drop 2).map (·.map Char.ofNat) := by rw [init_all]; kernel_rfl
def mayS (P : Program) (ws : List (List Char)) (h : behindMainWord (wordsSigns P.initOrder.toList) = ws) : Σ' b : Bool, P.mayEnter = b := by
  refine ⟨?b, ?h⟩
  case h =>
    unfold Program.mayEnter
    rw [h]
theorem may_enter : Tryd.pinned.checked.prog.mayEnter = true := (mayS Tryd.pinned.checked.prog _ init_words).2.trans (by kernel_rfl)
def headS (P : Program) (ws : List (List Char)) (h : behindMainWord (wordsSigns P.initOrder.toList) = ws) : Σ' b : List String, P.headLifts = b := by
  refine ⟨?b, ?h⟩
  case h =>
    unfold Program.headLifts
    rw [h]
theorem head_lifts : Tryd.pinned.checked.prog.headLifts = [] := (headS Tryd.pinned.checked.prog _ init_words).2.trans (by kernel_rfl)
def finS (P : Program) (ws : List (List Char)) (h : behindMainWord (wordsSigns P.initOrder.toList) = ws) (h2 : P.headLifts = []) : Σ' b : Bool, P.liftsFinal = b := by
  refine ⟨?b, ?h⟩
  case h =>
    unfold Program.liftsFinal
    rw [h, h2]
theorem lifts_final : Tryd.pinned.checked.prog.liftsFinal = false := (finS Tryd.pinned.checked.prog _ init_words head_lifts).2.trans (by kernel_rfl)
def makeS (P : Program) (ws : List (List Char)) (h : behindMainWord (wordsSigns P.initOrder.toList) = ws) : Σ' b : Option Make, P.make = b := by
  refine ⟨?b, ?h⟩
  case h =>
    unfold Program.make
    rw [h]
theorem make_is : Tryd.pinned.checked.prog.make = some .cut := (makeS Tryd.pinned.checked.prog _ init_words).2.trans (by kernel_rfl)
def mainS (P : Program) (ws : List (List Char)) (h : wordsSigns P.initOrder.toList = ws) : Σ' b : Option (Bool × List Char), P.mainIs = b := by
  refine ⟨?b, ?h⟩
  case h =>
    unfold Program.mainIs
    rw [h]
theorem main_is : Tryd.pinned.checked.prog.mainIs = some (true, "b360b3f1e523a987ddca022eaba286c98be24cafe00951038a5b55525c1c7ca4".toList) := (mainS Tryd.pinned.checked.prog _ init_all).2.trans (by kernel_rfl)
def joinS (P : Program) (f : FuncId) (fn : Func) (s : ChangeSpec) (c : OpenClaim) (hm : P.mayEnter = true) (hl : P.liftsFinal = false) (hk : P.make = some .cut) : Σ' b : Bool, joinedFacts P f fn s c = b := by
  refine ⟨?b, ?h⟩
  case h =>
    unfold joinedFacts
    rw [hm, hl, hk]
end Go.Proofs.YtdlofnkimikaiaaDoor
