/-
  DERIVED. GIVEN WITH THE SEED: THE CARDS: each row of YtncjidkgbfilkaaDoorRows.lean that lists a variable, with what it lists TIED to the program's text (the seventh form; the later family's looks); each row that meets fmt, with fmt's text TOLD by the authors' own Lean function (tested against real Go, not proved from fmt's source: count such statements apart). THE CARD IS WHAT COUNTS. Prove the row's statement (the work); the ties are given (YtncjidkgbfilkaaDoorTie.lean); close each card by the builder's one call (the guide's Derived/Test/ToyasCard.lean, 'card_holds'). Laid BY PROGRAM, IN A SANDBOX (cutbox-door.mjs). By AI agents, Wed Nov 11 2026. No macro, syntax, notation, axiom, sorry.
-/
import Derived.Test.YtncjidkgbfilkaaDoorRows
import GoSem.ClaimSeven
namespace Go.Proofs.YtncjidkgbfilkaaDoor
namespace Rows

/-- THE TIED CARD OF 'laws.FnExactConeIn'. -/
def fnExactConeInCard : Claim7 := { stood := { row := fnExactConeInRow, standIns := [], harness := (true, "d1108b8b4b3cd573cc65a185dd59b8c0ede033373484887c0b8d9148f24503f2"), looks := true }, kinds := [], alts := [], laidByText := true, laidKinds := [.handle], laidTests := true, laidLooks := .later }
def FnExactConeInCardSaid : Prop := Claim7.holds Tryd.pinned (.plain (OpenSpec.ofChange fnExactConeInSpec)) fnExactConeInCard

/-- THE TIED CARD OF 'laws.FnExactConeIndex'. -/
def fnExactConeIndexCard : Claim7 := { stood := { row := fnExactConeIndexRow, standIns := [], harness := (true, "d1108b8b4b3cd573cc65a185dd59b8c0ede033373484887c0b8d9148f24503f2"), looks := true }, kinds := [], alts := [], laidByText := true, laidKinds := [.handle], laidTests := true, laidLooks := .later }
def FnExactConeIndexCardSaid : Prop := Claim7.holds Tryd.pinned (.plain (OpenSpec.ofChange fnExactConeIndexSpec)) fnExactConeIndexCard

/-- THE TIED CARD OF 'laws.FnExactConeHas'. -/
def fnExactConeHasCard : Claim7 := { stood := { row := fnExactConeHasRow, standIns := [], harness := (true, "d1108b8b4b3cd573cc65a185dd59b8c0ede033373484887c0b8d9148f24503f2"), looks := true }, kinds := [], alts := [], laidByText := true, laidKinds := [.handle], laidTests := true, laidLooks := .later }
def FnExactConeHasCardSaid : Prop := Claim7.holds Tryd.pinned (.plain (OpenSpec.ofChange fnExactConeHasSpec)) fnExactConeHasCard

/-- THE TIED CARD OF 'laws.FnExactConeKind'. -/
def fnExactConeKindCard : Claim7 := { stood := { row := fnExactConeKindRow, standIns := [], harness := (true, "d1108b8b4b3cd573cc65a185dd59b8c0ede033373484887c0b8d9148f24503f2"), looks := true }, kinds := [], alts := [], laidByText := true, laidKinds := [.handle], laidTests := true, laidLooks := .later }
def FnExactConeKindCardSaid : Prop := Claim7.holds Tryd.pinned (.plain (OpenSpec.ofChange fnExactConeKindSpec)) fnExactConeKindCard

/-- THE TIED CARD OF 'laws.FnExactConeFraction'. -/
def fnExactConeFractionCard : Claim7 := { stood := { row := fnExactConeFractionRow, standIns := [], harness := (true, "d1108b8b4b3cd573cc65a185dd59b8c0ede033373484887c0b8d9148f24503f2"), looks := true }, kinds := [], alts := [], laidByText := true, laidKinds := [.handle], laidTests := true, laidLooks := .later }
def FnExactConeFractionCardSaid : Prop := Claim7.holds Tryd.pinned (.plain (OpenSpec.ofChange fnExactConeFractionSpec)) fnExactConeFractionCard

/-- THE TIED CARD OF 'laws.FnExactConeDual'. -/
def fnExactConeDualCard : Claim7 := { stood := { row := fnExactConeDualRow, standIns := [], harness := (true, "d1108b8b4b3cd573cc65a185dd59b8c0ede033373484887c0b8d9148f24503f2"), looks := true }, kinds := [], alts := [], laidByText := true, laidKinds := [.handle], laidTests := true, laidLooks := .later }
def FnExactConeDualCardSaid : Prop := Claim7.holds Tryd.pinned (.plain (OpenSpec.ofChange fnExactConeDualSpec)) fnExactConeDualCard

/-- THE TIED CARD OF 'laws.FnExactConeMove'. -/
def fnExactConeMoveCard : Claim7 := { stood := { row := fnExactConeMoveRow, standIns := [], harness := (true, "d1108b8b4b3cd573cc65a185dd59b8c0ede033373484887c0b8d9148f24503f2"), looks := true }, kinds := [], alts := [], laidByText := true, laidKinds := [.handle], laidTests := true, laidLooks := .later }
def FnExactConeMoveCardSaid : Prop := Claim7.holds Tryd.pinned (.plain (OpenSpec.ofChange fnExactConeMoveSpec)) fnExactConeMoveCard

/-- THE TIED CARD OF 'laws.FnExactConeParts'. -/
def fnExactConePartsCard : Claim7 := { stood := { row := fnExactConePartsRow, standIns := [], harness := (true, "d1108b8b4b3cd573cc65a185dd59b8c0ede033373484887c0b8d9148f24503f2"), looks := true }, kinds := [], alts := [], laidByText := true, laidKinds := [.handle], laidTests := true, laidLooks := .later }
def FnExactConePartsCardSaid : Prop := Claim7.holds Tryd.pinned (.plain (OpenSpec.ofChange fnExactConePartsSpec)) fnExactConePartsCard

/-- THE SECOND FORM's CARD OF 'laws.FnExactConeIn'. -/
def fnExactConeInUptoCard : Claim7 := { stood := { row := fnExactConeInUptoRow, standIns := [], harness := (true, "d1108b8b4b3cd573cc65a185dd59b8c0ede033373484887c0b8d9148f24503f2"), looks := true }, kinds := [], alts := [], laidByText := true, laidKinds := [.handle], laidTests := true, laidLooks := .later }
def FnExactConeInUptoCardSaid : Prop := Claim7.holds Tryd.pinned (.plain (OpenSpec.upto fnExactConeInSpec)) fnExactConeInUptoCard

/-- THE SECOND FORM's CARD OF 'laws.FnExactConeIndex'. -/
def fnExactConeIndexUptoCard : Claim7 := { stood := { row := fnExactConeIndexUptoRow, standIns := [], harness := (true, "d1108b8b4b3cd573cc65a185dd59b8c0ede033373484887c0b8d9148f24503f2"), looks := true }, kinds := [], alts := [], laidByText := true, laidKinds := [.handle], laidTests := true, laidLooks := .later }
def FnExactConeIndexUptoCardSaid : Prop := Claim7.holds Tryd.pinned (.plain (OpenSpec.upto fnExactConeIndexSpec)) fnExactConeIndexUptoCard

/-- THE SECOND FORM's CARD OF 'laws.FnExactConeHas'. -/
def fnExactConeHasUptoCard : Claim7 := { stood := { row := fnExactConeHasUptoRow, standIns := [], harness := (true, "d1108b8b4b3cd573cc65a185dd59b8c0ede033373484887c0b8d9148f24503f2"), looks := true }, kinds := [], alts := [], laidByText := true, laidKinds := [.handle], laidTests := true, laidLooks := .later }
def FnExactConeHasUptoCardSaid : Prop := Claim7.holds Tryd.pinned (.plain (OpenSpec.upto fnExactConeHasSpec)) fnExactConeHasUptoCard

/-- THE SECOND FORM's CARD OF 'laws.FnExactConeKind'. -/
def fnExactConeKindUptoCard : Claim7 := { stood := { row := fnExactConeKindUptoRow, standIns := [], harness := (true, "d1108b8b4b3cd573cc65a185dd59b8c0ede033373484887c0b8d9148f24503f2"), looks := true }, kinds := [], alts := [], laidByText := true, laidKinds := [.handle], laidTests := true, laidLooks := .later }
def FnExactConeKindUptoCardSaid : Prop := Claim7.holds Tryd.pinned (.plain (OpenSpec.upto fnExactConeKindSpec)) fnExactConeKindUptoCard

/-- THE SECOND FORM's CARD OF 'laws.FnExactConeFraction'. -/
def fnExactConeFractionUptoCard : Claim7 := { stood := { row := fnExactConeFractionUptoRow, standIns := [], harness := (true, "d1108b8b4b3cd573cc65a185dd59b8c0ede033373484887c0b8d9148f24503f2"), looks := true }, kinds := [], alts := [], laidByText := true, laidKinds := [.handle], laidTests := true, laidLooks := .later }
def FnExactConeFractionUptoCardSaid : Prop := Claim7.holds Tryd.pinned (.plain (OpenSpec.upto fnExactConeFractionSpec)) fnExactConeFractionUptoCard

/-- THE SECOND FORM's CARD OF 'laws.FnExactConeDual'. -/
def fnExactConeDualUptoCard : Claim7 := { stood := { row := fnExactConeDualUptoRow, standIns := [], harness := (true, "d1108b8b4b3cd573cc65a185dd59b8c0ede033373484887c0b8d9148f24503f2"), looks := true }, kinds := [], alts := [], laidByText := true, laidKinds := [.handle], laidTests := true, laidLooks := .later }
def FnExactConeDualUptoCardSaid : Prop := Claim7.holds Tryd.pinned (.plain (OpenSpec.upto fnExactConeDualSpec)) fnExactConeDualUptoCard

/-- THE SECOND FORM's CARD OF 'laws.FnExactConeMove'. -/
def fnExactConeMoveUptoCard : Claim7 := { stood := { row := fnExactConeMoveUptoRow, standIns := [], harness := (true, "d1108b8b4b3cd573cc65a185dd59b8c0ede033373484887c0b8d9148f24503f2"), looks := true }, kinds := [], alts := [], laidByText := true, laidKinds := [.handle], laidTests := true, laidLooks := .later }
def FnExactConeMoveUptoCardSaid : Prop := Claim7.holds Tryd.pinned (.plain (OpenSpec.upto fnExactConeMoveSpec)) fnExactConeMoveUptoCard

/-- THE SECOND FORM's CARD OF 'laws.FnExactConeParts'. -/
def fnExactConePartsUptoCard : Claim7 := { stood := { row := fnExactConePartsUptoRow, standIns := [], harness := (true, "d1108b8b4b3cd573cc65a185dd59b8c0ede033373484887c0b8d9148f24503f2"), looks := true }, kinds := [], alts := [], laidByText := true, laidKinds := [.handle], laidTests := true, laidLooks := .later }
def FnExactConePartsUptoCardSaid : Prop := Claim7.holds Tryd.pinned (.plain (OpenSpec.upto fnExactConePartsSpec)) fnExactConePartsUptoCard
end Rows
end Go.Proofs.YtncjidkgbfilkaaDoor
