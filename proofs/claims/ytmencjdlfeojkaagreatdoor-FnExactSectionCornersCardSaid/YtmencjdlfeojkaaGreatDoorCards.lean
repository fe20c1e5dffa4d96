/-
  DERIVED. GIVEN WITH THE SEED: THE CARDS: each row of YtmencjdlfeojkaaGreatDoorRows.lean that lists a variable, with what it lists TIED to the program's text (the seventh form; the later family's looks); each row that meets fmt, with fmt's text TOLD by the authors' own Lean function (tested against real Go, not proved from fmt's source: count such statements apart). THE CARD IS WHAT COUNTS. Prove the row's statement (the work); the ties are given (YtmencjdlfeojkaaGreatDoorTie.lean); close each card by the builder's one call (the guide's Derived/Test/ToyasCard.lean, 'card_holds'). Laid BY PROGRAM, IN A SANDBOX (cutbox-door.mjs). By AI agents, Wed Nov 11 2026. No macro, syntax, notation, axiom, sorry.
-/
import Derived.Test.YtmencjdlfeojkaaGreatDoorRows
import GoSem.ClaimSeven
namespace Go.Proofs.YtmencjdlfeojkaaGreatDoor
namespace Rows

/-- THE TIED CARD OF 'laws.FnExactSectionCorners'. -/
def fnExactSectionCornersCard : Claim7 := { stood := { row := fnExactSectionCornersRow, standIns := [], harness := (true, "8e1958707f26ac28abb9dc8a2e5ea8df393acc4e347b985da87516848b7fd898"), looks := true }, kinds := [], alts := [], laidByText := true, laidKinds := [.handle], laidTests := true, laidLooks := .later }
def FnExactSectionCornersCardSaid : Prop := Claim7.holds Tryz.pinned (.plain (OpenSpec.ofChange fnExactSectionCornersSpec)) fnExactSectionCornersCard

/-- THE TIED CARD OF 'laws.FnExactSectionArea'. -/
def fnExactSectionAreaCard : Claim7 := { stood := { row := fnExactSectionAreaRow, standIns := [], harness := (true, "8e1958707f26ac28abb9dc8a2e5ea8df393acc4e347b985da87516848b7fd898"), looks := true }, kinds := [], alts := [], laidByText := true, laidKinds := [.handle], laidTests := true, laidLooks := .later }
def FnExactSectionAreaCardSaid : Prop := Claim7.holds Tryz.pinned (.plain (OpenSpec.ofChange fnExactSectionAreaSpec)) fnExactSectionAreaCard

/-- THE SECOND FORM's CARD OF 'laws.FnExactSectionCorners'. -/
def fnExactSectionCornersUptoCard : Claim7 := { stood := { row := fnExactSectionCornersUptoRow, standIns := [], harness := (true, "8e1958707f26ac28abb9dc8a2e5ea8df393acc4e347b985da87516848b7fd898"), looks := true }, kinds := [], alts := [], laidByText := true, laidKinds := [.handle], laidTests := true, laidLooks := .later }
def FnExactSectionCornersUptoCardSaid : Prop := Claim7.holds Tryz.pinned (.plain (OpenSpec.upto fnExactSectionCornersSpec)) fnExactSectionCornersUptoCard

/-- THE SECOND FORM's CARD OF 'laws.FnExactSectionArea'. -/
def fnExactSectionAreaUptoCard : Claim7 := { stood := { row := fnExactSectionAreaUptoRow, standIns := [], harness := (true, "8e1958707f26ac28abb9dc8a2e5ea8df393acc4e347b985da87516848b7fd898"), looks := true }, kinds := [], alts := [], laidByText := true, laidKinds := [.handle], laidTests := true, laidLooks := .later }
def FnExactSectionAreaUptoCardSaid : Prop := Claim7.holds Tryz.pinned (.plain (OpenSpec.upto fnExactSectionAreaSpec)) fnExactSectionAreaUptoCard
end Rows
end Go.Proofs.YtmencjdlfeojkaaGreatDoor
