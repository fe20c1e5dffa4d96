/-
  DERIVED. GIVEN WITH THE SEED: THE CARDS: each row of YtcopcjlcfnamhabDoorRows.lean that lists a variable, with what it lists TIED to the program's text (the seventh form; the later family's looks); each row that meets fmt, with fmt's text TOLD by the authors' own Lean function (tested against real Go, not proved from fmt's source: count such statements apart). THE CARD IS WHAT COUNTS. Prove the row's statement (the work); the ties are given (YtcopcjlcfnamhabDoorTie.lean); close each card by the builder's one call (the guide's Derived/Test/ToyasCard.lean, 'card_holds'). Laid BY PROGRAM, IN A SANDBOX (cutbox-door.mjs). By AI agents, Wed Nov 11 2026. No macro, syntax, notation, axiom, sorry.
-/
import Derived.Test.YtcopcjlcfnamhabDoorRows
import GoSem.ClaimSeven
namespace Go.Proofs.YtcopcjlcfnamhabDoor
namespace Rows

/-- THE TIED CARD OF 'laws.FnExactFanBlow'. -/
def fnExactFanBlowCard : Claim7 := { stood := { row := fnExactFanBlowRow, standIns := [], harness := (true, "f1bc46bb43835a3782fbbb74d8b997c6d885f15de3d4f3dcbb1513311732262d"), looks := true }, kinds := [], alts := [], laidByText := true, laidKinds := [.handle], laidTests := true, laidLooks := .later }
def FnExactFanBlowCardSaid : Prop := Claim7.holds Tryd.pinned (.plain (OpenSpec.ofChange fnExactFanBlowSpec)) fnExactFanBlowCard

/-- THE TIED CARD OF 'laws.FnExactFanBuild'. -/
def fnExactFanBuildCard : Claim7 := { stood := { row := fnExactFanBuildRow, standIns := [], harness := (true, "f1bc46bb43835a3782fbbb74d8b997c6d885f15de3d4f3dcbb1513311732262d"), looks := true }, kinds := [], alts := [], laidByText := true, laidKinds := [.handle], laidTests := true, laidLooks := .later }
def FnExactFanBuildCardSaid : Prop := Claim7.holds Tryd.pinned (.plain (OpenSpec.ofChange fnExactFanBuildSpec)) fnExactFanBuildCard

/-- THE TIED CARD OF 'laws.FnExactFanOf'. -/
def fnExactFanOfCard : Claim7 := { stood := { row := fnExactFanOfRow, standIns := [], harness := (true, "f1bc46bb43835a3782fbbb74d8b997c6d885f15de3d4f3dcbb1513311732262d"), looks := true }, kinds := [], alts := [], laidByText := true, laidKinds := [.handle], laidTests := true, laidLooks := .later }
def FnExactFanOfCardSaid : Prop := Claim7.holds Tryd.pinned (.plain (OpenSpec.ofChange fnExactFanOfSpec)) fnExactFanOfCard

/-- THE TIED CARD OF 'laws.FnExactFanMove'. -/
def fnExactFanMoveCard : Claim7 := { stood := { row := fnExactFanMoveRow, standIns := [], harness := (true, "f1bc46bb43835a3782fbbb74d8b997c6d885f15de3d4f3dcbb1513311732262d"), looks := true }, kinds := [], alts := [], laidByText := true, laidKinds := [.handle], laidTests := true, laidLooks := .later }
def FnExactFanMoveCardSaid : Prop := Claim7.holds Tryd.pinned (.plain (OpenSpec.ofChange fnExactFanMoveSpec)) fnExactFanMoveCard

/-- THE TIED CARD OF 'laws.FnExactFanResolve'. -/
def fnExactFanResolveCard : Claim7 := { stood := { row := fnExactFanResolveRow, standIns := [], harness := (true, "f1bc46bb43835a3782fbbb74d8b997c6d885f15de3d4f3dcbb1513311732262d"), looks := true }, kinds := [], alts := [], laidByText := true, laidKinds := [.handle], laidTests := true, laidLooks := .later }
def FnExactFanResolveCardSaid : Prop := Claim7.holds Tryd.pinned (.plain (OpenSpec.ofChange fnExactFanResolveSpec)) fnExactFanResolveCard

/-- THE TIED CARD OF 'laws.FnExactFanKind'. -/
def fnExactFanKindCard : Claim7 := { stood := { row := fnExactFanKindRow, standIns := [], harness := (true, "f1bc46bb43835a3782fbbb74d8b997c6d885f15de3d4f3dcbb1513311732262d"), looks := true }, kinds := [], alts := [], laidByText := true, laidKinds := [.handle], laidTests := true, laidLooks := .later }
def FnExactFanKindCardSaid : Prop := Claim7.holds Tryd.pinned (.plain (OpenSpec.ofChange fnExactFanKindSpec)) fnExactFanKindCard

/-- THE SECOND FORM's CARD OF 'laws.FnExactFanBlow'. -/
def fnExactFanBlowUptoCard : Claim7 := { stood := { row := fnExactFanBlowUptoRow, standIns := [], harness := (true, "f1bc46bb43835a3782fbbb74d8b997c6d885f15de3d4f3dcbb1513311732262d"), looks := true }, kinds := [], alts := [], laidByText := true, laidKinds := [.handle], laidTests := true, laidLooks := .later }
def FnExactFanBlowUptoCardSaid : Prop := Claim7.holds Tryd.pinned (.plain (OpenSpec.upto fnExactFanBlowSpec)) fnExactFanBlowUptoCard

/-- THE SECOND FORM's CARD OF 'laws.FnExactFanBuild'. -/
def fnExactFanBuildUptoCard : Claim7 := { stood := { row := fnExactFanBuildUptoRow, standIns := [], harness := (true, "f1bc46bb43835a3782fbbb74d8b997c6d885f15de3d4f3dcbb1513311732262d"), looks := true }, kinds := [], alts := [], laidByText := true, laidKinds := [.handle], laidTests := true, laidLooks := .later }
def FnExactFanBuildUptoCardSaid : Prop := Claim7.holds Tryd.pinned (.plain (OpenSpec.upto fnExactFanBuildSpec)) fnExactFanBuildUptoCard

/-- THE SECOND FORM's CARD OF 'laws.FnExactFanOf'. -/
def fnExactFanOfUptoCard : Claim7 := { stood := { row := fnExactFanOfUptoRow, standIns := [], harness := (true, "f1bc46bb43835a3782fbbb74d8b997c6d885f15de3d4f3dcbb1513311732262d"), looks := true }, kinds := [], alts := [], laidByText := true, laidKinds := [.handle], laidTests := true, laidLooks := .later }
def FnExactFanOfUptoCardSaid : Prop := Claim7.holds Tryd.pinned (.plain (OpenSpec.upto fnExactFanOfSpec)) fnExactFanOfUptoCard

/-- THE SECOND FORM's CARD OF 'laws.FnExactFanMove'. -/
def fnExactFanMoveUptoCard : Claim7 := { stood := { row := fnExactFanMoveUptoRow, standIns := [], harness := (true, "f1bc46bb43835a3782fbbb74d8b997c6d885f15de3d4f3dcbb1513311732262d"), looks := true }, kinds := [], alts := [], laidByText := true, laidKinds := [.handle], laidTests := true, laidLooks := .later }
def FnExactFanMoveUptoCardSaid : Prop := Claim7.holds Tryd.pinned (.plain (OpenSpec.upto fnExactFanMoveSpec)) fnExactFanMoveUptoCard

/-- THE SECOND FORM's CARD OF 'laws.FnExactFanResolve'. -/
def fnExactFanResolveUptoCard : Claim7 := { stood := { row := fnExactFanResolveUptoRow, standIns := [], harness := (true, "f1bc46bb43835a3782fbbb74d8b997c6d885f15de3d4f3dcbb1513311732262d"), looks := true }, kinds := [], alts := [], laidByText := true, laidKinds := [.handle], laidTests := true, laidLooks := .later }
def FnExactFanResolveUptoCardSaid : Prop := Claim7.holds Tryd.pinned (.plain (OpenSpec.upto fnExactFanResolveSpec)) fnExactFanResolveUptoCard

/-- THE SECOND FORM's CARD OF 'laws.FnExactFanKind'. -/
def fnExactFanKindUptoCard : Claim7 := { stood := { row := fnExactFanKindUptoRow, standIns := [], harness := (true, "f1bc46bb43835a3782fbbb74d8b997c6d885f15de3d4f3dcbb1513311732262d"), looks := true }, kinds := [], alts := [], laidByText := true, laidKinds := [.handle], laidTests := true, laidLooks := .later }
def FnExactFanKindUptoCardSaid : Prop := Claim7.holds Tryd.pinned (.plain (OpenSpec.upto fnExactFanKindSpec)) fnExactFanKindUptoCard
end Rows
end Go.Proofs.YtcopcjlcfnamhabDoor
