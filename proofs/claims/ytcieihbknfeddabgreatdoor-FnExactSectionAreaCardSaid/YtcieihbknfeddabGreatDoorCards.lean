/-
  DERIVED. GIVEN WITH THE SEED: THE CARDS: each row of YtcieihbknfeddabGreatDoorRows.lean that lists a variable, with what it lists TIED to the program's text (the seventh form; the later family's looks); each row that meets fmt, with fmt's text TOLD by the authors' own Lean function (tested against real Go, not proved from fmt's source: count such statements apart). THE CARD IS WHAT COUNTS. Prove the row's statement (the work); the ties are given (YtcieihbknfeddabGreatDoorTie.lean); close each card by the builder's one call (the guide's Derived/Test/ToyasCard.lean, 'card_holds'). Laid BY PROGRAM, IN A SANDBOX (cutbox-door.mjs). By AI agents, Wed Nov 11 2026. No macro, syntax, notation, axiom, sorry.
-/
import Derived.Test.YtcieihbknfeddabGreatDoorRows
import GoSem.ClaimSeven
namespace Go.Proofs.YtcieihbknfeddabGreatDoor
namespace Rows

/-- THE TIED CARD OF 'laws.FnExactDivisorPlain'. -/
def fnExactDivisorPlainCard : Claim7 := { stood := { row := fnExactDivisorPlainRow, standIns := [], harness := (true, "10e7e784dce6e9e2d8360a98bc6559f27dbd6e599b093e3a43be1c907407948b"), looks := true }, kinds := [], alts := [], laidByText := true, laidKinds := [.handle], laidTests := true, laidLooks := .later }
def FnExactDivisorPlainCardSaid : Prop := Claim7.holds Tryz.pinned (.plain (OpenSpec.ofChange fnExactDivisorPlainSpec)) fnExactDivisorPlainCard

/-- THE TIED CARD OF 'laws.FnExactSectionCorners'. -/
def fnExactSectionCornersCard : Claim7 := { stood := { row := fnExactSectionCornersRow, standIns := [], harness := (true, "10e7e784dce6e9e2d8360a98bc6559f27dbd6e599b093e3a43be1c907407948b"), looks := true }, kinds := [], alts := [], laidByText := true, laidKinds := [.handle], laidTests := true, laidLooks := .later }
def FnExactSectionCornersCardSaid : Prop := Claim7.holds Tryz.pinned (.plain (OpenSpec.ofChange fnExactSectionCornersSpec)) fnExactSectionCornersCard

/-- THE TIED CARD OF 'laws.FnExactSectionArea'. -/
def fnExactSectionAreaCard : Claim7 := { stood := { row := fnExactSectionAreaRow, standIns := [], harness := (true, "10e7e784dce6e9e2d8360a98bc6559f27dbd6e599b093e3a43be1c907407948b"), looks := true }, kinds := [], alts := [], laidByText := true, laidKinds := [.handle], laidTests := true, laidLooks := .later }
def FnExactSectionAreaCardSaid : Prop := Claim7.holds Tryz.pinned (.plain (OpenSpec.ofChange fnExactSectionAreaSpec)) fnExactSectionAreaCard

/-- THE SECOND FORM's CARD OF 'laws.FnExactDivisorPlain'. -/
def fnExactDivisorPlainUptoCard : Claim7 := { stood := { row := fnExactDivisorPlainUptoRow, standIns := [], harness := (true, "10e7e784dce6e9e2d8360a98bc6559f27dbd6e599b093e3a43be1c907407948b"), looks := true }, kinds := [], alts := [], laidByText := true, laidKinds := [.handle], laidTests := true, laidLooks := .later }
def FnExactDivisorPlainUptoCardSaid : Prop := Claim7.holds Tryz.pinned (.plain (OpenSpec.upto fnExactDivisorPlainSpec)) fnExactDivisorPlainUptoCard

/-- THE SECOND FORM's CARD OF 'laws.FnExactSectionCorners'. -/
def fnExactSectionCornersUptoCard : Claim7 := { stood := { row := fnExactSectionCornersUptoRow, standIns := [], harness := (true, "10e7e784dce6e9e2d8360a98bc6559f27dbd6e599b093e3a43be1c907407948b"), looks := true }, kinds := [], alts := [], laidByText := true, laidKinds := [.handle], laidTests := true, laidLooks := .later }
def FnExactSectionCornersUptoCardSaid : Prop := Claim7.holds Tryz.pinned (.plain (OpenSpec.upto fnExactSectionCornersSpec)) fnExactSectionCornersUptoCard

/-- THE SECOND FORM's CARD OF 'laws.FnExactSectionArea'. -/
def fnExactSectionAreaUptoCard : Claim7 := { stood := { row := fnExactSectionAreaUptoRow, standIns := [], harness := (true, "10e7e784dce6e9e2d8360a98bc6559f27dbd6e599b093e3a43be1c907407948b"), looks := true }, kinds := [], alts := [], laidByText := true, laidKinds := [.handle], laidTests := true, laidLooks := .later }
def FnExactSectionAreaUptoCardSaid : Prop := Claim7.holds Tryz.pinned (.plain (OpenSpec.upto fnExactSectionAreaSpec)) fnExactSectionAreaUptoCard
end Rows
end Go.Proofs.YtcieihbknfeddabGreatDoor
