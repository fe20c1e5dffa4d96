/- What every law's row asks of the words at the program's head, reckoned once for a seat. -/
import Derived.Test.YtcieihbknfeddabGreatDoorRow
namespace Go.Proofs.YtcieihbknfeddabGreatDoor
open Go.RowKit Go.Joins

def initC : List Nat := [104, 97, 114, 110, 101, 115, 115, 32, 49, 48, 101, 55, 101, 55, 56, 52, 100, 99, 101, 54, 101, 57, 101, 50, 100, 56, 51, 54, 48, 97, 57, 56, 98, 99, 54, 53, 53, 57, 102, 50, 55, 100, 98, 100, 54, 101, 53, 57, 57, 98, 48, 57, 51, 101, 51, 97, 52, 51, 98, 101, 49, 99, 57, 48, 55, 52, 48, 55, 57, 52, 56, 98, 32, 99, 117, 116, 32, 97, 116, 32, 108, 111, 111, 112, 46, 101, 120, 97, 109, 112, 108, 101, 47, 116, 111, 114, 105, 99, 102, 97, 110, 115, 47, 108, 97, 119, 115, 46, 70, 110, 69, 120, 97, 99, 116, 68, 105, 118, 105, 115, 111, 114, 80, 108, 97, 105, 110, 32, 108, 111, 111, 112, 46, 101, 120, 97, 109, 112, 108, 101, 47, 116, 111, 114, 105, 99, 102, 97, 110, 115, 47, 108, 97, 119, 115, 46, 70, 110, 69, 120, 97, 99, 116, 83, 101, 99, 116, 105, 111, 110, 67, 111, 114, 110, 101, 114, 115, 32, 108, 111, 111, 112, 46, 101, 120, 97, 109, 112, 108, 101, 47, 116, 111, 114, 105, 99, 102, 97, 110, 115, 47, 108, 97, 119, 115, 46, 70, 110, 69, 120, 97, 99, 116, 83, 101, 99, 116, 105, 111, 110, 65, 114, 101, 97]
def initV : List (List Nat) := [[104, 97, 114, 110, 101, 115, 115], [49, 48, 101, 55, 101, 55, 56, 52, 100, 99, 101, 54, 101, 57, 101, 50, 100, 56, 51, 54, 48, 97, 57, 56, 98, 99, 54, 53, 53, 57, 102, 50, 55, 100, 98, 100, 54, 101, 53, 57, 57, 98, 48, 57, 51, 101, 51, 97, 52, 51, 98, 101, 49, 99, 57, 48, 55, 52, 48, 55, 57, 52, 56, 98], [99, 117, 116], [97, 116], [108, 111, 111, 112, 46, 101, 120, 97, 109, 112, 108, 101, 47, 116, 111, 114, 105, 99, 102, 97, 110, 115, 47, 108, 97, 119, 115, 46, 70, 110, 69, 120, 97, 99, 116, 68, 105, 118, 105, 115, 111, 114, 80, 108, 97, 105, 110], [108, 111, 111, 112, 46, 101, 120, 97, 109, 112, 108, 101, 47, 116, 111, 114, 105, 99, 102, 97, 110, 115, 47, 108, 97, 119, 115, 46, 70, 110, 69, 120, 97, 99, 116, 83, 101, 99, 116, 105, 111, 110, 67, 111, 114, 110, 101, 114, 115], [108, 111, 111, 112, 46, 101, 120, 97, 109, 112, 108, 101, 47, 116, 111, 114, 105, 99, 102, 97, 110, 115, 47, 108, 97, 119, 115, 46, 70, 110, 69, 120, 97, 99, 116, 83, 101, 99, 116, 105, 111, 110, 65, 114, 101, 97]]
theorem init_lit : Tryz.pinned.checked.prog.initOrder = String.ofList (initC.map Char.ofNat) := by kernel_rfl
theorem init_chars : Tryz.pinned.checked.prog.initOrder.toList = initC.map Char.ofNat := by rw [init_lit]; exact String.toList_ofList
theorem init_all : wordsSigns Tryz.pinned.checked.prog.initOrder.toList = initV.map (·.map Char.ofNat) := by rw [init_chars]; kernel_rfl
theorem init_words : behindMainWord (wordsSigns Tryz.pinned.checked.prog.initOrder.toList) = (initV.drop 2).map (·.map Char.ofNat) := by rw [init_all]; kernel_rfl
def mayS (P : Program) (ws : List (List Char)) (h : behindMainWord (wordsSigns P.initOrder.toList) = ws) : Σ' b : Bool, P.mayEnter = b := by
  refine ⟨?b, ?h⟩
  case h =>
    unfold Program.mayEnter
    rw [h]
theorem may_enter : Tryz.pinned.checked.prog.mayEnter = true := (mayS Tryz.pinned.checked.prog _ init_words).2.trans (by kernel_rfl)
def headS (P : Program) (ws : List (List Char)) (h : behindMainWord (wordsSigns P.initOrder.toList) = ws) : Σ' b : List String, P.headLifts = b := by
  refine ⟨?b, ?h⟩
  case h =>
    unfold Program.headLifts
    rw [h]
theorem head_lifts : Tryz.pinned.checked.prog.headLifts = [] := (headS Tryz.pinned.checked.prog _ init_words).2.trans (by kernel_rfl)
def finS (P : Program) (ws : List (List Char)) (h : behindMainWord (wordsSigns P.initOrder.toList) = ws) (h2 : P.headLifts = []) : Σ' b : Bool, P.liftsFinal = b := by
  refine ⟨?b, ?h⟩
  case h =>
    unfold Program.liftsFinal
    rw [h, h2]
theorem lifts_final : Tryz.pinned.checked.prog.liftsFinal = false := (finS Tryz.pinned.checked.prog _ init_words head_lifts).2.trans (by kernel_rfl)
def makeS (P : Program) (ws : List (List Char)) (h : behindMainWord (wordsSigns P.initOrder.toList) = ws) : Σ' b : Option Make, P.make = b := by
  refine ⟨?b, ?h⟩
  case h =>
    unfold Program.make
    rw [h]
theorem make_is : Tryz.pinned.checked.prog.make = some .cut := (makeS Tryz.pinned.checked.prog _ init_words).2.trans (by kernel_rfl)
def mainS (P : Program) (ws : List (List Char)) (h : wordsSigns P.initOrder.toList = ws) : Σ' b : Option (Bool × List Char), P.mainIs = b := by
  refine ⟨?b, ?h⟩
  case h =>
    unfold Program.mainIs
    rw [h]
theorem main_is : Tryz.pinned.checked.prog.mainIs = some (true, "10e7e784dce6e9e2d8360a98bc6559f27dbd6e599b093e3a43be1c907407948b".toList) := (mainS Tryz.pinned.checked.prog _ init_all).2.trans (by kernel_rfl)
def joinS (P : Program) (f : FuncId) (fn : Func) (s : ChangeSpec) (c : OpenClaim) (hm : P.mayEnter = true) (hl : P.liftsFinal = false) (hk : P.make = some .cut) : Σ' b : Bool, joinedFacts P f fn s c = b := by
  refine ⟨?b, ?h⟩
  case h =>
    unfold joinedFacts
    rw [hm, hl, hk]
end Go.Proofs.YtcieihbknfeddabGreatDoor
