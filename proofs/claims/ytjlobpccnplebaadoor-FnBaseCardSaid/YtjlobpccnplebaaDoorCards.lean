/-
  DERIVED. GIVEN WITH THE SEED: THE CARDS: each row of YtjlobpccnplebaaDoorRows.lean that lists a variable, with what it lists TIED to the program's text (the seventh form; the later family's looks); each row that meets fmt, with fmt's text TOLD by the authors' own Lean function (tested against real Go, not proved from fmt's source: count such statements apart). THE CARD IS WHAT COUNTS. Prove the row's statement (the work); the ties are given (YtjlobpccnplebaaDoorTie.lean); close each card by the builder's one call (the guide's Derived/Test/ToyasCard.lean, 'card_holds'). Laid BY PROGRAM, IN A SANDBOX (cutbox-door.mjs). By AI agents, Wed Nov 11 2026. No macro, syntax, notation, axiom, sorry.
-/
import Derived.Test.YtjlobpccnplebaaDoorRows
import GoSem.ClaimSeven
namespace Go.Proofs.YtjlobpccnplebaaDoor
namespace Rows

/-- THE TIED CARD OF 'laws.FnCone'. -/
def fnConeCard : Claim7 := { stood := { row := fnConeRow, standIns := [], harness := (true, "7e93cfd01ad841c262821b3a608a8907d5f8d650f48cad906e41a8b81b5fa818"), looks := true }, kinds := [], alts := [], laidByText := true, laidKinds := [.handle], laidTests := true, laidLooks := .later }
def FnConeCardSaid : Prop := Claim7.holds Tryd.pinned (.plain (OpenSpec.ofChange fnConeSpec)) fnConeCard

/-- THE TIED CARD OF 'laws.FnIndex'. -/
def fnIndexCard : Claim7 := { stood := { row := fnIndexRow, standIns := [], harness := (true, "7e93cfd01ad841c262821b3a608a8907d5f8d650f48cad906e41a8b81b5fa818"), looks := true }, kinds := [], alts := [], laidByText := true, laidKinds := [.handle], laidTests := true, laidLooks := .later }
def FnIndexCardSaid : Prop := Claim7.holds Tryd.pinned (.plain (OpenSpec.ofChange fnIndexSpec)) fnIndexCard

/-- THE TIED CARD OF 'laws.FnHas'. -/
def fnHasCard : Claim7 := { stood := { row := fnHasRow, standIns := [], harness := (true, "7e93cfd01ad841c262821b3a608a8907d5f8d650f48cad906e41a8b81b5fa818"), looks := true }, kinds := [], alts := [], laidByText := true, laidKinds := [.handle], laidTests := true, laidLooks := .later }
def FnHasCardSaid : Prop := Claim7.holds Tryd.pinned (.plain (OpenSpec.ofChange fnHasSpec)) fnHasCard

/-- THE TIED CARD OF 'laws.FnKind'. -/
def fnKindCard : Claim7 := { stood := { row := fnKindRow, standIns := [], harness := (true, "7e93cfd01ad841c262821b3a608a8907d5f8d650f48cad906e41a8b81b5fa818"), looks := true }, kinds := [], alts := [], laidByText := true, laidKinds := [.handle], laidTests := true, laidLooks := .later }
def FnKindCardSaid : Prop := Claim7.holds Tryd.pinned (.plain (OpenSpec.ofChange fnKindSpec)) fnKindCard

/-- THE TIED CARD OF 'laws.FnBase'. -/
def fnBaseCard : Claim7 := { stood := { row := fnBaseRow, standIns := [], harness := (true, "7e93cfd01ad841c262821b3a608a8907d5f8d650f48cad906e41a8b81b5fa818"), looks := true }, kinds := [], alts := [], laidByText := true, laidKinds := [.handle], laidTests := true, laidLooks := .later }
def FnBaseCardSaid : Prop := Claim7.holds Tryd.pinned (.plain (OpenSpec.ofChange fnBaseSpec)) fnBaseCard

/-- THE TIED CARD OF 'laws.FnConeFraction'. -/
def fnConeFractionCard : Claim7 := { stood := { row := fnConeFractionRow, standIns := [], harness := (true, "7e93cfd01ad841c262821b3a608a8907d5f8d650f48cad906e41a8b81b5fa818"), looks := true }, kinds := [], alts := [], laidByText := true, laidKinds := [.handle], laidTests := true, laidLooks := .later }
def FnConeFractionCardSaid : Prop := Claim7.holds Tryd.pinned (.plain (OpenSpec.ofChange fnConeFractionSpec)) fnConeFractionCard

/-- THE TIED CARD OF 'laws.FnDual'. -/
def fnDualCard : Claim7 := { stood := { row := fnDualRow, standIns := [], harness := (true, "7e93cfd01ad841c262821b3a608a8907d5f8d650f48cad906e41a8b81b5fa818"), looks := true }, kinds := [], alts := [], laidByText := true, laidKinds := [.handle], laidTests := true, laidLooks := .later }
def FnDualCardSaid : Prop := Claim7.holds Tryd.pinned (.plain (OpenSpec.ofChange fnDualSpec)) fnDualCard

/-- THE TIED CARD OF 'laws.FnConeMove'. -/
def fnConeMoveCard : Claim7 := { stood := { row := fnConeMoveRow, standIns := [], harness := (true, "7e93cfd01ad841c262821b3a608a8907d5f8d650f48cad906e41a8b81b5fa818"), looks := true }, kinds := [], alts := [], laidByText := true, laidKinds := [.handle], laidTests := true, laidLooks := .later }
def FnConeMoveCardSaid : Prop := Claim7.holds Tryd.pinned (.plain (OpenSpec.ofChange fnConeMoveSpec)) fnConeMoveCard

/-- THE TIED CARD OF 'laws.FnParts'. -/
def fnPartsCard : Claim7 := { stood := { row := fnPartsRow, standIns := [], harness := (true, "7e93cfd01ad841c262821b3a608a8907d5f8d650f48cad906e41a8b81b5fa818"), looks := true }, kinds := [], alts := [], laidByText := true, laidKinds := [.handle], laidTests := true, laidLooks := .later }
def FnPartsCardSaid : Prop := Claim7.holds Tryd.pinned (.plain (OpenSpec.ofChange fnPartsSpec)) fnPartsCard

/-- THE SECOND FORM's CARD OF 'laws.FnCone'. -/
def fnConeUptoCard : Claim7 := { stood := { row := fnConeUptoRow, standIns := [], harness := (true, "7e93cfd01ad841c262821b3a608a8907d5f8d650f48cad906e41a8b81b5fa818"), looks := true }, kinds := [], alts := [], laidByText := true, laidKinds := [.handle], laidTests := true, laidLooks := .later }
def FnConeUptoCardSaid : Prop := Claim7.holds Tryd.pinned (.plain (OpenSpec.upto fnConeSpec)) fnConeUptoCard

/-- THE SECOND FORM's CARD OF 'laws.FnIndex'. -/
def fnIndexUptoCard : Claim7 := { stood := { row := fnIndexUptoRow, standIns := [], harness := (true, "7e93cfd01ad841c262821b3a608a8907d5f8d650f48cad906e41a8b81b5fa818"), looks := true }, kinds := [], alts := [], laidByText := true, laidKinds := [.handle], laidTests := true, laidLooks := .later }
def FnIndexUptoCardSaid : Prop := Claim7.holds Tryd.pinned (.plain (OpenSpec.upto fnIndexSpec)) fnIndexUptoCard

/-- THE SECOND FORM's CARD OF 'laws.FnHas'. -/
def fnHasUptoCard : Claim7 := { stood := { row := fnHasUptoRow, standIns := [], harness := (true, "7e93cfd01ad841c262821b3a608a8907d5f8d650f48cad906e41a8b81b5fa818"), looks := true }, kinds := [], alts := [], laidByText := true, laidKinds := [.handle], laidTests := true, laidLooks := .later }
def FnHasUptoCardSaid : Prop := Claim7.holds Tryd.pinned (.plain (OpenSpec.upto fnHasSpec)) fnHasUptoCard

/-- THE SECOND FORM's CARD OF 'laws.FnKind'. -/
def fnKindUptoCard : Claim7 := { stood := { row := fnKindUptoRow, standIns := [], harness := (true, "7e93cfd01ad841c262821b3a608a8907d5f8d650f48cad906e41a8b81b5fa818"), looks := true }, kinds := [], alts := [], laidByText := true, laidKinds := [.handle], laidTests := true, laidLooks := .later }
def FnKindUptoCardSaid : Prop := Claim7.holds Tryd.pinned (.plain (OpenSpec.upto fnKindSpec)) fnKindUptoCard

/-- THE SECOND FORM's CARD OF 'laws.FnBase'. -/
def fnBaseUptoCard : Claim7 := { stood := { row := fnBaseUptoRow, standIns := [], harness := (true, "7e93cfd01ad841c262821b3a608a8907d5f8d650f48cad906e41a8b81b5fa818"), looks := true }, kinds := [], alts := [], laidByText := true, laidKinds := [.handle], laidTests := true, laidLooks := .later }
def FnBaseUptoCardSaid : Prop := Claim7.holds Tryd.pinned (.plain (OpenSpec.upto fnBaseSpec)) fnBaseUptoCard

/-- THE SECOND FORM's CARD OF 'laws.FnConeFraction'. -/
def fnConeFractionUptoCard : Claim7 := { stood := { row := fnConeFractionUptoRow, standIns := [], harness := (true, "7e93cfd01ad841c262821b3a608a8907d5f8d650f48cad906e41a8b81b5fa818"), looks := true }, kinds := [], alts := [], laidByText := true, laidKinds := [.handle], laidTests := true, laidLooks := .later }
def FnConeFractionUptoCardSaid : Prop := Claim7.holds Tryd.pinned (.plain (OpenSpec.upto fnConeFractionSpec)) fnConeFractionUptoCard

/-- THE SECOND FORM's CARD OF 'laws.FnDual'. -/
def fnDualUptoCard : Claim7 := { stood := { row := fnDualUptoRow, standIns := [], harness := (true, "7e93cfd01ad841c262821b3a608a8907d5f8d650f48cad906e41a8b81b5fa818"), looks := true }, kinds := [], alts := [], laidByText := true, laidKinds := [.handle], laidTests := true, laidLooks := .later }
def FnDualUptoCardSaid : Prop := Claim7.holds Tryd.pinned (.plain (OpenSpec.upto fnDualSpec)) fnDualUptoCard

/-- THE SECOND FORM's CARD OF 'laws.FnConeMove'. -/
def fnConeMoveUptoCard : Claim7 := { stood := { row := fnConeMoveUptoRow, standIns := [], harness := (true, "7e93cfd01ad841c262821b3a608a8907d5f8d650f48cad906e41a8b81b5fa818"), looks := true }, kinds := [], alts := [], laidByText := true, laidKinds := [.handle], laidTests := true, laidLooks := .later }
def FnConeMoveUptoCardSaid : Prop := Claim7.holds Tryd.pinned (.plain (OpenSpec.upto fnConeMoveSpec)) fnConeMoveUptoCard

/-- THE SECOND FORM's CARD OF 'laws.FnParts'. -/
def fnPartsUptoCard : Claim7 := { stood := { row := fnPartsUptoRow, standIns := [], harness := (true, "7e93cfd01ad841c262821b3a608a8907d5f8d650f48cad906e41a8b81b5fa818"), looks := true }, kinds := [], alts := [], laidByText := true, laidKinds := [.handle], laidTests := true, laidLooks := .later }
def FnPartsUptoCardSaid : Prop := Claim7.holds Tryd.pinned (.plain (OpenSpec.upto fnPartsSpec)) fnPartsUptoCard
end Rows
end Go.Proofs.YtjlobpccnplebaaDoor
