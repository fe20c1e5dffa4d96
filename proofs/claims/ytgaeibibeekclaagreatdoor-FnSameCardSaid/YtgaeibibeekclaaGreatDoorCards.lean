/-
  DERIVED. GIVEN WITH THE SEED: THE CARDS: each row of YtgaeibibeekclaaGreatDoorRows.lean that lists a variable, with what it lists TIED to the program's text (the seventh form; the later family's looks); each row that meets fmt, with fmt's text TOLD by the authors' own Lean function (tested against real Go, not proved from fmt's source: count such statements apart). THE CARD IS WHAT COUNTS. Prove the row's statement (the work); the ties are given (YtgaeibibeekclaaGreatDoorTie.lean); close each card by the builder's one call (the guide's Derived/Test/ToyasCard.lean, 'card_holds'). Laid BY PROGRAM, IN A SANDBOX (cutbox-door.mjs). By AI agents, Wed Nov 11 2026. No macro, syntax, notation, axiom, sorry.
-/
import Derived.Test.YtgaeibibeekclaaGreatDoorRows
import GoSem.ClaimSeven
namespace Go.Proofs.YtgaeibibeekclaaGreatDoor
namespace Rows

/-- THE TIED CARD OF 'laws.FnPolygonShift'. -/
def fnPolygonShiftCard : Claim7 := { stood := { row := fnPolygonShiftRow, standIns := [], harness := (true, "9b7a12e9758ec921ccb28e1d5005377698dca2eee95bd6cf3ab231fb604f4f6b"), looks := true }, kinds := [], alts := [], laidByText := true, laidKinds := [.handle], laidTests := true, laidLooks := .later }
def FnPolygonShiftCardSaid : Prop := Claim7.holds Tryz.pinned (.plain (OpenSpec.ofChange fnPolygonShiftSpec)) fnPolygonShiftCard

/-- THE TIED CARD OF 'laws.FnPolygonMove'. -/
def fnPolygonMoveCard : Claim7 := { stood := { row := fnPolygonMoveRow, standIns := [], harness := (true, "9b7a12e9758ec921ccb28e1d5005377698dca2eee95bd6cf3ab231fb604f4f6b"), looks := true }, kinds := [], alts := [], laidByText := true, laidKinds := [.handle], laidTests := true, laidLooks := .later }
def FnPolygonMoveCardSaid : Prop := Claim7.holds Tryz.pinned (.plain (OpenSpec.ofChange fnPolygonMoveSpec)) fnPolygonMoveCard

/-- THE TIED CARD OF 'laws.FnOneInner'. -/
def fnOneInnerCard : Claim7 := { stood := { row := fnOneInnerRow, standIns := [], harness := (true, "9b7a12e9758ec921ccb28e1d5005377698dca2eee95bd6cf3ab231fb604f4f6b"), looks := true }, kinds := [], alts := [], laidByText := true, laidKinds := [.handle], laidTests := true, laidLooks := .later }
def FnOneInnerCardSaid : Prop := Claim7.holds Tryz.pinned (.plain (OpenSpec.ofChange fnOneInnerSpec)) fnOneInnerCard

/-- THE TIED CARD OF 'laws.FnSame'. -/
def fnSameCard : Claim7 := { stood := { row := fnSameRow, standIns := [], harness := (true, "9b7a12e9758ec921ccb28e1d5005377698dca2eee95bd6cf3ab231fb604f4f6b"), looks := true }, kinds := [], alts := [], laidByText := true, laidKinds := [.handle], laidTests := true, laidLooks := .later }
def FnSameCardSaid : Prop := Claim7.holds Tryz.pinned (.plain (OpenSpec.ofChange fnSameSpec)) fnSameCard

/-- THE SECOND FORM's CARD OF 'laws.FnPolygonShift'. -/
def fnPolygonShiftUptoCard : Claim7 := { stood := { row := fnPolygonShiftUptoRow, standIns := [], harness := (true, "9b7a12e9758ec921ccb28e1d5005377698dca2eee95bd6cf3ab231fb604f4f6b"), looks := true }, kinds := [], alts := [], laidByText := true, laidKinds := [.handle], laidTests := true, laidLooks := .later }
def FnPolygonShiftUptoCardSaid : Prop := Claim7.holds Tryz.pinned (.plain (OpenSpec.upto fnPolygonShiftSpec)) fnPolygonShiftUptoCard

/-- THE SECOND FORM's CARD OF 'laws.FnPolygonMove'. -/
def fnPolygonMoveUptoCard : Claim7 := { stood := { row := fnPolygonMoveUptoRow, standIns := [], harness := (true, "9b7a12e9758ec921ccb28e1d5005377698dca2eee95bd6cf3ab231fb604f4f6b"), looks := true }, kinds := [], alts := [], laidByText := true, laidKinds := [.handle], laidTests := true, laidLooks := .later }
def FnPolygonMoveUptoCardSaid : Prop := Claim7.holds Tryz.pinned (.plain (OpenSpec.upto fnPolygonMoveSpec)) fnPolygonMoveUptoCard

/-- THE SECOND FORM's CARD OF 'laws.FnOneInner'. -/
def fnOneInnerUptoCard : Claim7 := { stood := { row := fnOneInnerUptoRow, standIns := [], harness := (true, "9b7a12e9758ec921ccb28e1d5005377698dca2eee95bd6cf3ab231fb604f4f6b"), looks := true }, kinds := [], alts := [], laidByText := true, laidKinds := [.handle], laidTests := true, laidLooks := .later }
def FnOneInnerUptoCardSaid : Prop := Claim7.holds Tryz.pinned (.plain (OpenSpec.upto fnOneInnerSpec)) fnOneInnerUptoCard

/-- THE SECOND FORM's CARD OF 'laws.FnSame'. -/
def fnSameUptoCard : Claim7 := { stood := { row := fnSameUptoRow, standIns := [], harness := (true, "9b7a12e9758ec921ccb28e1d5005377698dca2eee95bd6cf3ab231fb604f4f6b"), looks := true }, kinds := [], alts := [], laidByText := true, laidKinds := [.handle], laidTests := true, laidLooks := .later }
def FnSameUptoCardSaid : Prop := Claim7.holds Tryz.pinned (.plain (OpenSpec.upto fnSameSpec)) fnSameUptoCard
end Rows
end Go.Proofs.YtgaeibibeekclaaGreatDoor
