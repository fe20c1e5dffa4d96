/- What every law's row asks of the words at the program's head, reckoned once for a seat. -/
import Derived.Test.YtgaeibibeekclaaDoorRow
namespace Go.Proofs.YtgaeibibeekclaaDoor
open Go.RowKit Go.Joins

def initC : List Nat := [104, 97, 114, 110, 101, 115, 115, 32, 100, 98, 53, 50, 49, 49, 54, 48, 99, 100, 57, 56, 51, 56, 99, 99, 102, 99, 52, 49, 97, 99, 54, 52, 55, 99, 101, 97, 99, 97, 97, 51, 101, 53, 48, 51, 50, 97, 51, 100, 100, 55, 52, 101, 49, 101, 56, 53, 57, 98, 50, 98, 55, 53, 48, 101, 99, 101, 100, 56, 55, 99, 101, 98, 32, 99, 117, 116, 32, 97, 116, 32, 108, 111, 111, 112, 46, 101, 120, 97, 109, 112, 108, 101, 47, 116, 111, 114, 105, 99, 102, 97, 110, 115, 47, 108, 97, 119, 115, 46, 70, 110, 80, 111, 108, 121, 103, 111, 110, 83, 117, 109, 32, 108, 111, 111, 112, 46, 101, 120, 97, 109, 112, 108, 101, 47, 116, 111, 114, 105, 99, 102, 97, 110, 115, 47, 108, 97, 119, 115, 46, 70, 110, 80, 111, 108, 121, 103, 111, 110, 84, 105, 109, 101, 115, 32, 108, 111, 111, 112, 46, 101, 120, 97, 109, 112, 108, 101, 47, 116, 111, 114, 105, 99, 102, 97, 110, 115, 47, 108, 97, 119, 115, 46, 70, 110, 80, 111, 108, 121, 103, 111, 110, 32, 108, 111, 111, 112, 46, 101, 120, 97, 109, 112, 108, 101, 47, 116, 111, 114, 105, 99, 102, 97, 110, 115, 47, 108, 97, 119, 115, 46, 70, 110, 72, 117, 108, 108, 32, 108, 111, 111, 112, 46, 101, 120, 97, 109, 112, 108, 101, 47, 116, 111, 114, 105, 99, 102, 97, 110, 115, 47, 108, 97, 119, 115, 46, 70, 110, 80, 111, 108, 121, 103, 111, 110, 72, 97, 115, 32, 108, 111, 111, 112, 46, 101, 120, 97, 109, 112, 108, 101, 47, 116, 111, 114, 105, 99, 102, 97, 110, 115, 47, 108, 97, 119, 115, 46, 70, 110, 69, 120, 97, 99, 116, 80, 111, 108, 121, 103, 111, 110, 83, 97, 109, 101]
def initV : List (List Nat) := [[104, 97, 114, 110, 101, 115, 115], [100, 98, 53, 50, 49, 49, 54, 48, 99, 100, 57, 56, 51, 56, 99, 99, 102, 99, 52, 49, 97, 99, 54, 52, 55, 99, 101, 97, 99, 97, 97, 51, 101, 53, 48, 51, 50, 97, 51, 100, 100, 55, 52, 101, 49, 101, 56, 53, 57, 98, 50, 98, 55, 53, 48, 101, 99, 101, 100, 56, 55, 99, 101, 98], [99, 117, 116], [97, 116], [108, 111, 111, 112, 46, 101, 120, 97, 109, 112, 108, 101, 47, 116, 111, 114, 105, 99, 102, 97, 110, 115, 47, 108, 97, 119, 115, 46, 70, 110, 80, 111, 108, 121, 103, 111, 110, 83, 117, 109], [108, 111, 111, 112, 46, 101, 120, 97, 109, 112, 108, 101, 47, 116, 111, 114, 105, 99, 102, 97, 110, 115, 47, 108, 97, 119, 115, 46, 70, 110, 80, 111, 108, 121, 103, 111, 110, 84, 105, 109, 101, 115], [108, 111, 111, 112, 46, 101, 120, 97, 109, 112, 108, 101, 47, 116, 111, 114, 105, 99, 102, 97, 110, 115, 47, 108, 97, 119, 115, 46, 70, 110, 80, 111, 108, 121, 103, 111, 110], [108, 111, 111, 112, 46, 101, 120, 97, 109, 112, 108, 101, 47, 116, 111, 114, 105, 99, 102, 97, 110, 115, 47, 108, 97, 119, 115, 46, 70, 110, 72, 117, 108, 108], [108, 111, 111, 112, 46, 101, 120, 97, 109, 112, 108, 101, 47, 116, 111, 114, 105, 99, 102, 97, 110, 115, 47, 108, 97, 119, 115, 46, 70, 110, 80, 111, 108, 121, 103, 111, 110, 72, 97, 115], [108, 111, 111, 112, 46, 101, 120, 97, 109, 112, 108, 101, 47, 116, 111, 114, 105, 99, 102, 97, 110, 115, 47, 108, 97, 119, 115, 46, 70, 110, 69, 120, 97, 99, 116, 80, 111, 108, 121, 103, 111, 110, 83, 97, 109, 101]]
theorem init_lit : Tryd.pinned.checked.prog.initOrder = String.ofList (initC.map Char.ofNat) := by kernel_rfl
theorem init_chars : Tryd.pinned.checked.prog.initOrder.toList = initC.map Char.ofNat := by rw [init_lit]; exact String.toList_ofList
theorem init_all : wordsSigns Tryd.pinned.checked.prog.initOrder.toList = initV.map (·.map Char.ofNat) := by rw [init_chars]; kernel_rfl
theorem init_words : behindMainWord (wordsSigns Tryd.pinned.checked.prog.initOrder.toList) = (initV.drop 2).map (·.map Char.ofNat) := by rw [init_all]; kernel_rfl
def mayS (P : Program) (ws : List (List Char)) (h : behindMainWord (wordsSigns P.initOrder.toList) = ws) : Σ' b : Bool, P.mayEnter = b := by
  refine ⟨?b, ?h⟩
  case h =>
    unfold Program.mayEnter
    rw [h]
theorem may_enter : Tryd.pinned.checked.prog.mayEnter = true := (mayS Tryd.pinned.checked.prog _ init_words).2.trans (by kernel_rfl)
def headS (P : Program) (ws : List (List Char)) (h : behindMainWord (wordsSigns P.initOrder.toList) = ws) : Σ' b : List String, P.headLifts = b := by
  refine ⟨?b, ?h⟩
  case h =>
    unfold Program.headLifts
    rw [h]
theorem head_lifts : Tryd.pinned.checked.prog.headLifts = [] := (headS Tryd.pinned.checked.prog _ init_words).2.trans (by kernel_rfl)
def finS (P : Program) (ws : List (List Char)) (h : behindMainWord (wordsSigns P.initOrder.toList) = ws) (h2 : P.headLifts = []) : Σ' b : Bool, P.liftsFinal = b := by
  refine ⟨?b, ?h⟩
  case h =>
    unfold Program.liftsFinal
    rw [h, h2]
theorem lifts_final : Tryd.pinned.checked.prog.liftsFinal = false := (finS Tryd.pinned.checked.prog _ init_words head_lifts).2.trans (by kernel_rfl)
def makeS (P : Program) (ws : List (List Char)) (h : behindMainWord (wordsSigns P.initOrder.toList) = ws) : Σ' b : Option Make, P.make = b := by
  refine ⟨?b, ?h⟩
  case h =>
    unfold Program.make
    rw [h]
theorem make_is : Tryd.pinned.checked.prog.make = some .cut := (makeS Tryd.pinned.checked.prog _ init_words).2.trans (by kernel_rfl)
def mainS (P : Program) (ws : List (List Char)) (h : wordsSigns P.initOrder.toList = ws) : Σ' b : Option (Bool × List Char), P.mainIs = b := by
  refine ⟨?b, ?h⟩
  case h =>
    unfold Program.mainIs
    rw [h]
theorem main_is : Tryd.pinned.checked.prog.mainIs = some (true, "db521160cd9838ccfc41ac647ceacaa3e5032a3dd74e1e859b2b750eced87ceb".toList) := (mainS Tryd.pinned.checked.prog _ init_all).2.trans (by kernel_rfl)
def joinS (P : Program) (f : FuncId) (fn : Func) (s : ChangeSpec) (c : OpenClaim) (hm : P.mayEnter = true) (hl : P.liftsFinal = false) (hk : P.make = some .cut) : Σ' b : Bool, joinedFacts P f fn s c = b := by
  refine ⟨?b, ?h⟩
  case h =>
    unfold joinedFacts
    rw [hm, hl, hk]
end Go.Proofs.YtgaeibibeekclaaDoor
