/-
  DERIVED. GIVEN WITH THE SEED: THE CARDS: each row of YtnemmgnipmjpcaaDoorRows.lean that lists a variable, with what it lists TIED to the program's text (the seventh form; the later family's looks); each row that meets fmt, with fmt's text TOLD by the authors' own Lean function (tested against real Go, not proved from fmt's source: count such statements apart). THE CARD IS WHAT COUNTS. Prove the row's statement (the work); the ties are given (YtnemmgnipmjpcaaDoorTie.lean); close each card by the builder's one call (the guide's Derived/Test/ToyasCard.lean, 'card_holds'). Laid BY PROGRAM, IN A SANDBOX (cutbox-door.mjs). By AI agents, Wed Nov 11 2026. No macro, syntax, notation, axiom, sorry.
-/
import Derived.Test.YtnemmgnipmjpcaaDoorRows
import GoSem.ClaimSeven
namespace Go.Proofs.YtnemmgnipmjpcaaDoor
namespace Rows

/-- THE TIED CARD OF 'laws.FnVec'. -/
def fnVecCard : Claim7 := { stood := { row := fnVecRow, standIns := [], harness := (true, "d619028bbe78d338ab1745c562c1fc3fc27361547b0a5b85402b70ef8f66512d"), looks := true }, kinds := [], alts := [], laidByText := true, laidKinds := [.handle], laidTests := true, laidLooks := .later }
def FnVecCardSaid : Prop := Claim7.holds Tryd.pinned (.plain (OpenSpec.ofChange fnVecSpec)) fnVecCard

/-- THE TIED CARD OF 'laws.FnAdd'. -/
def fnAddCard : Claim7 := { stood := { row := fnAddRow, standIns := [], harness := (true, "d619028bbe78d338ab1745c562c1fc3fc27361547b0a5b85402b70ef8f66512d"), looks := true }, kinds := [], alts := [], laidByText := true, laidKinds := [.handle], laidTests := true, laidLooks := .later }
def FnAddCardSaid : Prop := Claim7.holds Tryd.pinned (.plain (OpenSpec.ofChange fnAddSpec)) fnAddCard

/-- THE TIED CARD OF 'laws.FnTimes'. -/
def fnTimesCard : Claim7 := { stood := { row := fnTimesRow, standIns := [], harness := (true, "d619028bbe78d338ab1745c562c1fc3fc27361547b0a5b85402b70ef8f66512d"), looks := true }, kinds := [], alts := [], laidByText := true, laidKinds := [.handle], laidTests := true, laidLooks := .later }
def FnTimesCardSaid : Prop := Claim7.holds Tryd.pinned (.plain (OpenSpec.ofChange fnTimesSpec)) fnTimesCard

/-- THE TIED CARD OF 'laws.FnDet'. -/
def fnDetCard : Claim7 := { stood := { row := fnDetRow, standIns := [], harness := (true, "d619028bbe78d338ab1745c562c1fc3fc27361547b0a5b85402b70ef8f66512d"), looks := true }, kinds := [], alts := [], laidByText := true, laidKinds := [.handle], laidTests := true, laidLooks := .later }
def FnDetCardSaid : Prop := Claim7.holds Tryd.pinned (.plain (OpenSpec.ofChange fnDetSpec)) fnDetCard

/-- THE TIED CARD OF 'laws.FnProduct'. -/
def fnProductCard : Claim7 := { stood := { row := fnProductRow, standIns := [], harness := (true, "d619028bbe78d338ab1745c562c1fc3fc27361547b0a5b85402b70ef8f66512d"), looks := true }, kinds := [], alts := [], laidByText := true, laidKinds := [.handle], laidTests := true, laidLooks := .later }
def FnProductCardSaid : Prop := Claim7.holds Tryd.pinned (.plain (OpenSpec.ofChange fnProductSpec)) fnProductCard

/-- THE TIED CARD OF 'laws.FnPrimitive'. -/
def fnPrimitiveCard : Claim7 := { stood := { row := fnPrimitiveRow, standIns := [], harness := (true, "d619028bbe78d338ab1745c562c1fc3fc27361547b0a5b85402b70ef8f66512d"), looks := true }, kinds := [], alts := [], laidByText := true, laidKinds := [.handle], laidTests := true, laidLooks := .later }
def FnPrimitiveCardSaid : Prop := Claim7.holds Tryd.pinned (.plain (OpenSpec.ofChange fnPrimitiveSpec)) fnPrimitiveCard

/-- THE TIED CARD OF 'laws.FnTurn'. -/
def fnTurnCard : Claim7 := { stood := { row := fnTurnRow, standIns := [], harness := (true, "d619028bbe78d338ab1745c562c1fc3fc27361547b0a5b85402b70ef8f66512d"), looks := true }, kinds := [], alts := [], laidByText := true, laidKinds := [.handle], laidTests := true, laidLooks := .later }
def FnTurnCardSaid : Prop := Claim7.holds Tryd.pinned (.plain (OpenSpec.ofChange fnTurnSpec)) fnTurnCard

/-- THE TIED CARD OF 'laws.FnMat'. -/
def fnMatCard : Claim7 := { stood := { row := fnMatRow, standIns := [], harness := (true, "d619028bbe78d338ab1745c562c1fc3fc27361547b0a5b85402b70ef8f66512d"), looks := true }, kinds := [], alts := [], laidByText := true, laidKinds := [.handle], laidTests := true, laidLooks := .later }
def FnMatCardSaid : Prop := Claim7.holds Tryd.pinned (.plain (OpenSpec.ofChange fnMatSpec)) fnMatCard

/-- THE TIED CARD OF 'laws.FnMove'. -/
def fnMoveCard : Claim7 := { stood := { row := fnMoveRow, standIns := [], harness := (true, "d619028bbe78d338ab1745c562c1fc3fc27361547b0a5b85402b70ef8f66512d"), looks := true }, kinds := [], alts := [], laidByText := true, laidKinds := [.handle], laidTests := true, laidLooks := .later }
def FnMoveCardSaid : Prop := Claim7.holds Tryd.pinned (.plain (OpenSpec.ofChange fnMoveSpec)) fnMoveCard

/-- THE TIED CARD OF 'laws.FnMatTimes'. -/
def fnMatTimesCard : Claim7 := { stood := { row := fnMatTimesRow, standIns := [], harness := (true, "d619028bbe78d338ab1745c562c1fc3fc27361547b0a5b85402b70ef8f66512d"), looks := true }, kinds := [], alts := [], laidByText := true, laidKinds := [.handle], laidTests := true, laidLooks := .later }
def FnMatTimesCardSaid : Prop := Claim7.holds Tryd.pinned (.plain (OpenSpec.ofChange fnMatTimesSpec)) fnMatTimesCard

/-- THE SECOND FORM's CARD OF 'laws.FnVec'. -/
def fnVecUptoCard : Claim7 := { stood := { row := fnVecUptoRow, standIns := [], harness := (true, "d619028bbe78d338ab1745c562c1fc3fc27361547b0a5b85402b70ef8f66512d"), looks := true }, kinds := [], alts := [], laidByText := true, laidKinds := [.handle], laidTests := true, laidLooks := .later }
def FnVecUptoCardSaid : Prop := Claim7.holds Tryd.pinned (.plain (OpenSpec.upto fnVecSpec)) fnVecUptoCard

/-- THE SECOND FORM's CARD OF 'laws.FnAdd'. -/
def fnAddUptoCard : Claim7 := { stood := { row := fnAddUptoRow, standIns := [], harness := (true, "d619028bbe78d338ab1745c562c1fc3fc27361547b0a5b85402b70ef8f66512d"), looks := true }, kinds := [], alts := [], laidByText := true, laidKinds := [.handle], laidTests := true, laidLooks := .later }
def FnAddUptoCardSaid : Prop := Claim7.holds Tryd.pinned (.plain (OpenSpec.upto fnAddSpec)) fnAddUptoCard

/-- THE SECOND FORM's CARD OF 'laws.FnTimes'. -/
def fnTimesUptoCard : Claim7 := { stood := { row := fnTimesUptoRow, standIns := [], harness := (true, "d619028bbe78d338ab1745c562c1fc3fc27361547b0a5b85402b70ef8f66512d"), looks := true }, kinds := [], alts := [], laidByText := true, laidKinds := [.handle], laidTests := true, laidLooks := .later }
def FnTimesUptoCardSaid : Prop := Claim7.holds Tryd.pinned (.plain (OpenSpec.upto fnTimesSpec)) fnTimesUptoCard

/-- THE SECOND FORM's CARD OF 'laws.FnDet'. -/
def fnDetUptoCard : Claim7 := { stood := { row := fnDetUptoRow, standIns := [], harness := (true, "d619028bbe78d338ab1745c562c1fc3fc27361547b0a5b85402b70ef8f66512d"), looks := true }, kinds := [], alts := [], laidByText := true, laidKinds := [.handle], laidTests := true, laidLooks := .later }
def FnDetUptoCardSaid : Prop := Claim7.holds Tryd.pinned (.plain (OpenSpec.upto fnDetSpec)) fnDetUptoCard

/-- THE SECOND FORM's CARD OF 'laws.FnProduct'. -/
def fnProductUptoCard : Claim7 := { stood := { row := fnProductUptoRow, standIns := [], harness := (true, "d619028bbe78d338ab1745c562c1fc3fc27361547b0a5b85402b70ef8f66512d"), looks := true }, kinds := [], alts := [], laidByText := true, laidKinds := [.handle], laidTests := true, laidLooks := .later }
def FnProductUptoCardSaid : Prop := Claim7.holds Tryd.pinned (.plain (OpenSpec.upto fnProductSpec)) fnProductUptoCard

/-- THE SECOND FORM's CARD OF 'laws.FnPrimitive'. -/
def fnPrimitiveUptoCard : Claim7 := { stood := { row := fnPrimitiveUptoRow, standIns := [], harness := (true, "d619028bbe78d338ab1745c562c1fc3fc27361547b0a5b85402b70ef8f66512d"), looks := true }, kinds := [], alts := [], laidByText := true, laidKinds := [.handle], laidTests := true, laidLooks := .later }
def FnPrimitiveUptoCardSaid : Prop := Claim7.holds Tryd.pinned (.plain (OpenSpec.upto fnPrimitiveSpec)) fnPrimitiveUptoCard

/-- THE SECOND FORM's CARD OF 'laws.FnTurn'. -/
def fnTurnUptoCard : Claim7 := { stood := { row := fnTurnUptoRow, standIns := [], harness := (true, "d619028bbe78d338ab1745c562c1fc3fc27361547b0a5b85402b70ef8f66512d"), looks := true }, kinds := [], alts := [], laidByText := true, laidKinds := [.handle], laidTests := true, laidLooks := .later }
def FnTurnUptoCardSaid : Prop := Claim7.holds Tryd.pinned (.plain (OpenSpec.upto fnTurnSpec)) fnTurnUptoCard

/-- THE SECOND FORM's CARD OF 'laws.FnMat'. -/
def fnMatUptoCard : Claim7 := { stood := { row := fnMatUptoRow, standIns := [], harness := (true, "d619028bbe78d338ab1745c562c1fc3fc27361547b0a5b85402b70ef8f66512d"), looks := true }, kinds := [], alts := [], laidByText := true, laidKinds := [.handle], laidTests := true, laidLooks := .later }
def FnMatUptoCardSaid : Prop := Claim7.holds Tryd.pinned (.plain (OpenSpec.upto fnMatSpec)) fnMatUptoCard

/-- THE SECOND FORM's CARD OF 'laws.FnMove'. -/
def fnMoveUptoCard : Claim7 := { stood := { row := fnMoveUptoRow, standIns := [], harness := (true, "d619028bbe78d338ab1745c562c1fc3fc27361547b0a5b85402b70ef8f66512d"), looks := true }, kinds := [], alts := [], laidByText := true, laidKinds := [.handle], laidTests := true, laidLooks := .later }
def FnMoveUptoCardSaid : Prop := Claim7.holds Tryd.pinned (.plain (OpenSpec.upto fnMoveSpec)) fnMoveUptoCard

/-- THE SECOND FORM's CARD OF 'laws.FnMatTimes'. -/
def fnMatTimesUptoCard : Claim7 := { stood := { row := fnMatTimesUptoRow, standIns := [], harness := (true, "d619028bbe78d338ab1745c562c1fc3fc27361547b0a5b85402b70ef8f66512d"), looks := true }, kinds := [], alts := [], laidByText := true, laidKinds := [.handle], laidTests := true, laidLooks := .later }
def FnMatTimesUptoCardSaid : Prop := Claim7.holds Tryd.pinned (.plain (OpenSpec.upto fnMatTimesSpec)) fnMatTimesUptoCard
end Rows
end Go.Proofs.YtnemmgnipmjpcaaDoor
