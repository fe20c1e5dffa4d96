/-
  DERIVED. GIVEN WITH THE SEED: THE CARDS: each row of YtmencjdlfeojkaaDoorRows.lean that lists a variable, with what it lists TIED to the program's text (the seventh form; the later family's looks); each row that meets fmt, with fmt's text TOLD by the authors' own Lean function (tested against real Go, not proved from fmt's source: count such statements apart). THE CARD IS WHAT COUNTS. Prove the row's statement (the work); the ties are given (YtmencjdlfeojkaaDoorTie.lean); close each card by the builder's one call (the guide's Derived/Test/ToyasCard.lean, 'card_holds'). Laid BY PROGRAM, IN A SANDBOX (cutbox-door.mjs). By AI agents, Wed Nov 11 2026. No macro, syntax, notation, axiom, sorry.
-/
import Derived.Test.YtmencjdlfeojkaaDoorRows
import GoSem.ClaimSeven
namespace Go.Proofs.YtmencjdlfeojkaaDoor
namespace Rows

/-- THE TIED CARD OF 'laws.FnExactSectionBox'. -/
def fnExactSectionBoxCard : Claim7 := { stood := { row := fnExactSectionBoxRow, standIns := [], harness := (true, "4f3ff6df130789b8cde3536a753a1aa4ec884c87a7039bb85e2016ad780cd5cb"), looks := true }, kinds := [], alts := [], laidByText := true, laidKinds := [.handle], laidTests := true, laidLooks := .later }
def FnExactSectionBoxCardSaid : Prop := Claim7.holds Tryd.pinned (.plain (OpenSpec.ofChange fnExactSectionBoxSpec)) fnExactSectionBoxCard

/-- THE TIED CARD OF 'laws.FnExactSectionHas'. -/
def fnExactSectionHasCard : Claim7 := { stood := { row := fnExactSectionHasRow, standIns := [], harness := (true, "4f3ff6df130789b8cde3536a753a1aa4ec884c87a7039bb85e2016ad780cd5cb"), looks := true }, kinds := [], alts := [], laidByText := true, laidKinds := [.handle], laidTests := true, laidLooks := .later }
def FnExactSectionHasCardSaid : Prop := Claim7.holds Tryd.pinned (.plain (OpenSpec.ofChange fnExactSectionHasSpec)) fnExactSectionHasCard

/-- THE TIED CARD OF 'laws.FnExactDivisorPlain'. -/
def fnExactDivisorPlainCard : Claim7 := { stood := { row := fnExactDivisorPlainRow, standIns := [], harness := (true, "4f3ff6df130789b8cde3536a753a1aa4ec884c87a7039bb85e2016ad780cd5cb"), looks := true }, kinds := [], alts := [], laidByText := true, laidKinds := [.handle], laidTests := true, laidLooks := .later }
def FnExactDivisorPlainCardSaid : Prop := Claim7.holds Tryd.pinned (.plain (OpenSpec.ofChange fnExactDivisorPlainSpec)) fnExactDivisorPlainCard

/-- THE TIED CARD OF 'laws.FnExactDivisorEquivalent'. -/
def fnExactDivisorEquivalentCard : Claim7 := { stood := { row := fnExactDivisorEquivalentRow, standIns := [], harness := (true, "4f3ff6df130789b8cde3536a753a1aa4ec884c87a7039bb85e2016ad780cd5cb"), looks := true }, kinds := [], alts := [], laidByText := true, laidKinds := [.handle], laidTests := true, laidLooks := .later }
def FnExactDivisorEquivalentCardSaid : Prop := Claim7.holds Tryd.pinned (.plain (OpenSpec.ofChange fnExactDivisorEquivalentSpec)) fnExactDivisorEquivalentCard

/-- THE TIED CARD OF 'laws.FnDegrees'. -/
def fnDegreesCard : Claim7 := { stood := { row := fnDegreesRow, standIns := [], harness := (true, "4f3ff6df130789b8cde3536a753a1aa4ec884c87a7039bb85e2016ad780cd5cb"), looks := true }, kinds := [], alts := [], laidByText := true, laidKinds := [.handle], laidTests := true, laidLooks := .later }
def FnDegreesCardSaid : Prop := Claim7.holds Tryd.pinned (.plain (OpenSpec.ofChange fnDegreesSpec)) fnDegreesCard

/-- THE SECOND FORM's CARD OF 'laws.FnExactSectionBox'. -/
def fnExactSectionBoxUptoCard : Claim7 := { stood := { row := fnExactSectionBoxUptoRow, standIns := [], harness := (true, "4f3ff6df130789b8cde3536a753a1aa4ec884c87a7039bb85e2016ad780cd5cb"), looks := true }, kinds := [], alts := [], laidByText := true, laidKinds := [.handle], laidTests := true, laidLooks := .later }
def FnExactSectionBoxUptoCardSaid : Prop := Claim7.holds Tryd.pinned (.plain (OpenSpec.upto fnExactSectionBoxSpec)) fnExactSectionBoxUptoCard

/-- THE SECOND FORM's CARD OF 'laws.FnExactSectionHas'. -/
def fnExactSectionHasUptoCard : Claim7 := { stood := { row := fnExactSectionHasUptoRow, standIns := [], harness := (true, "4f3ff6df130789b8cde3536a753a1aa4ec884c87a7039bb85e2016ad780cd5cb"), looks := true }, kinds := [], alts := [], laidByText := true, laidKinds := [.handle], laidTests := true, laidLooks := .later }
def FnExactSectionHasUptoCardSaid : Prop := Claim7.holds Tryd.pinned (.plain (OpenSpec.upto fnExactSectionHasSpec)) fnExactSectionHasUptoCard

/-- THE SECOND FORM's CARD OF 'laws.FnExactDivisorPlain'. -/
def fnExactDivisorPlainUptoCard : Claim7 := { stood := { row := fnExactDivisorPlainUptoRow, standIns := [], harness := (true, "4f3ff6df130789b8cde3536a753a1aa4ec884c87a7039bb85e2016ad780cd5cb"), looks := true }, kinds := [], alts := [], laidByText := true, laidKinds := [.handle], laidTests := true, laidLooks := .later }
def FnExactDivisorPlainUptoCardSaid : Prop := Claim7.holds Tryd.pinned (.plain (OpenSpec.upto fnExactDivisorPlainSpec)) fnExactDivisorPlainUptoCard

/-- THE SECOND FORM's CARD OF 'laws.FnExactDivisorEquivalent'. -/
def fnExactDivisorEquivalentUptoCard : Claim7 := { stood := { row := fnExactDivisorEquivalentUptoRow, standIns := [], harness := (true, "4f3ff6df130789b8cde3536a753a1aa4ec884c87a7039bb85e2016ad780cd5cb"), looks := true }, kinds := [], alts := [], laidByText := true, laidKinds := [.handle], laidTests := true, laidLooks := .later }
def FnExactDivisorEquivalentUptoCardSaid : Prop := Claim7.holds Tryd.pinned (.plain (OpenSpec.upto fnExactDivisorEquivalentSpec)) fnExactDivisorEquivalentUptoCard

/-- THE SECOND FORM's CARD OF 'laws.FnDegrees'. -/
def fnDegreesUptoCard : Claim7 := { stood := { row := fnDegreesUptoRow, standIns := [], harness := (true, "4f3ff6df130789b8cde3536a753a1aa4ec884c87a7039bb85e2016ad780cd5cb"), looks := true }, kinds := [], alts := [], laidByText := true, laidKinds := [.handle], laidTests := true, laidLooks := .later }
def FnDegreesUptoCardSaid : Prop := Claim7.holds Tryd.pinned (.plain (OpenSpec.upto fnDegreesSpec)) fnDegreesUptoCard
end Rows
end Go.Proofs.YtmencjdlfeojkaaDoor
