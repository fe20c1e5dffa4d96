/- What every law's row asks of the words at the program's head, reckoned once for a seat. -/
import Derived.Test.YtgaeibibeekclaaGreatDoorRow
namespace Go.Proofs.YtgaeibibeekclaaGreatDoor
open Go.RowKit Go.Joins

def initC : List Nat := [104, 97, 114, 110, 101, 115, 115, 32, 57, 98, 55, 97, 49, 50, 101, 57, 55, 53, 56, 101, 99, 57, 50, 49, 99, 99, 98, 50, 56, 101, 49, 100, 53, 48, 48, 53, 51, 55, 55, 54, 57, 56, 100, 99, 97, 50, 101, 101, 101, 57, 53, 98, 100, 54, 99, 102, 51, 97, 98, 50, 51, 49, 102, 98, 54, 48, 52, 102, 52, 102, 54, 98, 32, 99, 117, 116, 32, 97, 116, 32, 108, 111, 111, 112, 46, 101, 120, 97, 109, 112, 108, 101, 47, 116, 111, 114, 105, 99, 102, 97, 110, 115, 47, 108, 97, 119, 115, 46, 70, 110, 80, 111, 108, 121, 103, 111, 110, 83, 104, 105, 102, 116, 32, 108, 111, 111, 112, 46, 101, 120, 97, 109, 112, 108, 101, 47, 116, 111, 114, 105, 99, 102, 97, 110, 115, 47, 108, 97, 119, 115, 46, 70, 110, 80, 111, 108, 121, 103, 111, 110, 77, 111, 118, 101, 32, 108, 111, 111, 112, 46, 101, 120, 97, 109, 112, 108, 101, 47, 116, 111, 114, 105, 99, 102, 97, 110, 115, 47, 108, 97, 119, 115, 46, 70, 110, 79, 110, 101, 73, 110, 110, 101, 114, 32, 108, 111, 111, 112, 46, 101, 120, 97, 109, 112, 108, 101, 47, 116, 111, 114, 105, 99, 102, 97, 110, 115, 47, 108, 97, 119, 115, 46, 70, 110, 83, 97, 109, 101]
def initV : List (List Nat) := [[104, 97, 114, 110, 101, 115, 115], [57, 98, 55, 97, 49, 50, 101, 57, 55, 53, 56, 101, 99, 57, 50, 49, 99, 99, 98, 50, 56, 101, 49, 100, 53, 48, 48, 53, 51, 55, 55, 54, 57, 56, 100, 99, 97, 50, 101, 101, 101, 57, 53, 98, 100, 54, 99, 102, 51, 97, 98, 50, 51, 49, 102, 98, 54, 48, 52, 102, 52, 102, 54, 98], [99, 117, 116], [97, 116], [108, 111, 111, 112, 46, 101, 120, 97, 109, 112, 108, 101, 47, 116, 111, 114, 105, 99, 102, 97, 110, 115, 47, 108, 97, 119, 115, 46, 70, 110, 80, 111, 108, 121, 103, 111, 110, 83, 104, 105, 102, 116], [108, 111, 111, 112, 46, 101, 120, 97, 109, 112, 108, 101, 47, 116, 111, 114, 105, 99, 102, 97, 110, 115, 47, 108, 97, 119, 115, 46, 70, 110, 80, 111, 108, 121, 103, 111, 110, 77, 111, 118, 101], [108, 111, 111, 112, 46, 101, 120, 97, 109, 112, 108, 101, 47, 116, 111, 114, 105, 99, 102, 97, 110, 115, 47, 108, 97, 119, 115, 46, 70, 110, 79, 110, 101, 73, 110, 110, 101, 114], [108, 111, 111, 112, 46, 101, 120, 97, 109, 112, 108, 101, 47, 116, 111, 114, 105, 99, 102, 97, 110, 115, 47, 108, 97, 119, 115, 46, 70, 110, 83, 97, 109, 101]]
theorem init_lit : Tryz.pinned.checked.prog.initOrder = String.ofList (initC.map Char.ofNat) := by kernel_rfl
theorem init_chars : Tryz.pinned.checked.prog.initOrder.toList = initC.map Char.ofNat := by rw [init_lit]; exact String.toList_ofList
theorem init_all : wordsSigns Tryz.pinned.checked.prog.initOrder.toList = initV.map (·.map Char.ofNat) := by rw [init_chars]; kernel_rfl
theorem init_words : behindMainWord (wordsSigns Tryz.pinned.checked.prog.initOrder.toList) = (initV.drop 2).map (·.map Char.ofNat) := by rw [init_all]; kernel_rfl
def mayS (P : Program) (ws : List (List Char)) (h : behindMainWord (wordsSigns P.initOrder.toList) = ws) : Σ' b : Bool, P.mayEnter = b := by
  refine ⟨?b, ?h⟩
  case h =>
    unfold Program.mayEnter
    rw [h]
theorem may_enter : Tryz.pinned.checked.prog.mayEnter = true := (mayS Tryz.pinned.checked.prog _ init_words).2.trans (by kernel_rfl)
def headS (P : Program) (ws : List (List Char)) (h : behindMainWord (wordsSigns P.initOrder.toList) = ws) : Σ' b : List String, P.headLifts = b := by
  refine ⟨?b, ?h⟩
  case h =>
    unfold Program.headLifts
    rw [h]
theorem head_lifts : Tryz.pinned.checked.prog.headLifts = [] := (headS Tryz.pinned.checked.prog _ init_words).2.trans (by kernel_rfl)
def finS (P : Program) (ws : List (List Char)) (h : behindMainWord (wordsSigns P.initOrder.toList) = ws) (h2 : P.headLifts = []) : Σ' b : Bool, P.liftsFinal = b := by
  refine ⟨?b, ?h⟩
  case h =>
    unfold Program.liftsFinal
    rw [h, h2]
theorem lifts_final : Tryz.pinned.checked.prog.liftsFinal = false := (finS Tryz.pinned.checked.prog _ init_words head_lifts).2.trans (by kernel_rfl)
def makeS (P : Program) (ws : List (List Char)) (h : behindMainWord (wordsSigns P.initOrder.toList) = ws) : Σ' b : Option Make, P.make = b := by
  refine ⟨?b, ?h⟩
  case h =>
    unfold Program.make
    rw [h]
theorem make_is : Tryz.pinned.checked.prog.make = some .cut := (makeS Tryz.pinned.checked.prog _ init_words).2.trans (by kernel_rfl)
def mainS (P : Program) (ws : List (List Char)) (h : wordsSigns P.initOrder.toList = ws) : Σ' b : Option (Bool × List Char), P.mainIs = b := by
  refine ⟨?b, ?h⟩
  case h =>
    unfold Program.mainIs
    rw [h]
theorem main_is : Tryz.pinned.checked.prog.mainIs = some (true, "9b7a12e9758ec921ccb28e1d5005377698dca2eee95bd6cf3ab231fb604f4f6b".toList) := (mainS Tryz.pinned.checked.prog _ init_all).2.trans (by kernel_rfl)
def joinS (P : Program) (f : FuncId) (fn : Func) (s : ChangeSpec) (c : OpenClaim) (hm : P.mayEnter = true) (hl : P.liftsFinal = false) (hk : P.make = some .cut) : Σ' b : Bool, joinedFacts P f fn s c = b := by
  refine ⟨?b, ?h⟩
  case h =>
    unfold joinedFacts
    rw [hm, hl, hk]
end Go.Proofs.YtgaeibibeekclaaGreatDoor
