/- What every law's row asks of the words at the program's head, reckoned once for a seat. -/
import Derived.Test.YtpimhndholckcaaDoorRow
namespace Go.Proofs.YtpimhndholckcaaDoor
open Go.RowKit Go.Joins

def initC : List Nat := [104, 97, 114, 110, 101, 115, 115, 32, 48, 98, 52, 56, 98, 51, 102, 102, 102, 97, 52, 49, 97, 101, 51, 50, 99, 97, 101, 48, 50, 56, 50, 100, 97, 49, 50, 55, 48, 55, 100, 98, 101, 102, 52, 48, 97, 52, 49, 55, 55, 101, 97, 56, 57, 97, 99, 57, 53, 99, 49, 56, 51, 52, 50, 53, 56, 50, 57, 55, 52, 102, 100, 99, 32, 99, 117, 116, 32, 97, 116, 32, 108, 111, 111, 112, 46, 101, 120, 97, 109, 112, 108, 101, 47, 116, 111, 114, 105, 99, 102, 97, 110, 115, 47, 108, 97, 119, 115, 46, 70, 110, 80, 105, 99, 107, 32, 108, 111, 111, 112, 46, 101, 120, 97, 109, 112, 108, 101, 47, 116, 111, 114, 105, 99, 102, 97, 110, 115, 47, 108, 97, 119, 115, 46, 70, 110, 69, 100, 103, 101, 32, 108, 111, 111, 112, 46, 101, 120, 97, 109, 112, 108, 101, 47, 116, 111, 114, 105, 99, 102, 97, 110, 115, 47, 108, 97, 119, 115, 46, 70, 110, 80, 111, 108, 121, 103, 111, 110, 84, 105, 100, 121, 32, 108, 111, 111, 112, 46, 101, 120, 97, 109, 112, 108, 101, 47, 116, 111, 114, 105, 99, 102, 97, 110, 115, 47, 108, 97, 119, 115, 46, 70, 110, 77, 105, 120, 101, 100]
def initV : List (List Nat) := [[104, 97, 114, 110, 101, 115, 115], [48, 98, 52, 56, 98, 51, 102, 102, 102, 97, 52, 49, 97, 101, 51, 50, 99, 97, 101, 48, 50, 56, 50, 100, 97, 49, 50, 55, 48, 55, 100, 98, 101, 102, 52, 48, 97, 52, 49, 55, 55, 101, 97, 56, 57, 97, 99, 57, 53, 99, 49, 56, 51, 52, 50, 53, 56, 50, 57, 55, 52, 102, 100, 99], [99, 117, 116], [97, 116], [108, 111, 111, 112, 46, 101, 120, 97, 109, 112, 108, 101, 47, 116, 111, 114, 105, 99, 102, 97, 110, 115, 47, 108, 97, 119, 115, 46, 70, 110, 80, 105, 99, 107], [108, 111, 111, 112, 46, 101, 120, 97, 109, 112, 108, 101, 47, 116, 111, 114, 105, 99, 102, 97, 110, 115, 47, 108, 97, 119, 115, 46, 70, 110, 69, 100, 103, 101], [108, 111, 111, 112, 46, 101, 120, 97, 109, 112, 108, 101, 47, 116, 111, 114, 105, 99, 102, 97, 110, 115, 47, 108, 97, 119, 115, 46, 70, 110, 80, 111, 108, 121, 103, 111, 110, 84, 105, 100, 121], [108, 111, 111, 112, 46, 101, 120, 97, 109, 112, 108, 101, 47, 116, 111, 114, 105, 99, 102, 97, 110, 115, 47, 108, 97, 119, 115, 46, 70, 110, 77, 105, 120, 101, 100]]
theorem init_lit : Tryd.pinned.checked.prog.initOrder = String.ofList (initC.map Char.ofNat) := by kernel_rfl
theorem init_chars : Tryd.pinned.checked.prog.initOrder.toList = initC.map Char.ofNat := by rw [init_lit]; exact String.toList_ofList
theorem init_all : wordsSigns Tryd.pinned.checked.prog.initOrder.toList = initV.map (·.map Char.ofNat) := by rw [init_chars]; kernel_rfl
theorem init_words : behindMainWord (wordsSigns Tryd.pinned.checked.prog.initOrder.toList) = (initV.drop 2).map (·.map Char.ofNat) := by rw [init_all]; kernel_rfl
def mayS (P : Program) (ws : List (List Char)) (h : behindMainWord (wordsSigns P.initOrder.toList) = ws) : Σ' b : Bool, P.mayEnter = b := by
  refine ⟨?b, ?h⟩
  case h =>
    unfold Program.mayEnter
    rw [h]
theorem may_enter : Tryd.pinned.checked.prog.mayEnter = true := (mayS Tryd.pinned.checked.prog _ init_words).2.trans (by kernel_rfl)
def headS (P : Program) (ws : List (List Char)) (h : behindMainWord (wordsSigns P.initOrder.toList) = ws) : Σ' b : List String, P.headLifts = b := by
  refine ⟨?b, ?h⟩
  case h =>
    unfold Program.headLifts
    rw [h]
theorem head_lifts : Tryd.pinned.checked.prog.headLifts = [] := (headS Tryd.pinned.checked.prog _ init_words).2.trans (by kernel_rfl)
def finS (P : Program) (ws : List (List Char)) (h : behindMainWord (wordsSigns P.initOrder.toList) = ws) (h2 : P.headLifts = []) : Σ' b : Bool, P.liftsFinal = b := by
  refine ⟨?b, ?h⟩
  case h =>
    unfold Program.liftsFinal
    rw [h, h2]
theorem lifts_final : Tryd.pinned.checked.prog.liftsFinal = false := (finS Tryd.pinned.checked.prog _ init_words head_lifts).2.trans (by kernel_rfl)
def makeS (P : Program) (ws : List (List Char)) (h : behindMainWord (wordsSigns P.initOrder.toList) = ws) : Σ' b : Option Make, P.make = b := by
  refine ⟨?b, ?h⟩
  case h =>
    unfold Program.make
    rw [h]
theorem make_is : Tryd.pinned.checked.prog.make = some .cut := (makeS Tryd.pinned.checked.prog _ init_words).2.trans (by kernel_rfl)
def mainS (P : Program) (ws : List (List Char)) (h : wordsSigns P.initOrder.toList = ws) : Σ' b : Option (Bool × List Char), P.mainIs = b := by
  refine ⟨?b, ?h⟩
  case h =>
    unfold Program.mainIs
    rw [h]
theorem main_is : Tryd.pinned.checked.prog.mainIs = some (true, "0b48b3fffa41ae32cae0282da12707dbef40a4177ea89ac95c18342582974fdc".toList) := (mainS Tryd.pinned.checked.prog _ init_all).2.trans (by kernel_rfl)
def joinS (P : Program) (f : FuncId) (fn : Func) (s : ChangeSpec) (c : OpenClaim) (hm : P.mayEnter = true) (hl : P.liftsFinal = false) (hk : P.make = some .cut) : Σ' b : Bool, joinedFacts P f fn s c = b := by
  refine ⟨?b, ?h⟩
  case h =>
    unfold joinedFacts
    rw [hm, hl, hk]
end Go.Proofs.YtpimhndholckcaaDoor
