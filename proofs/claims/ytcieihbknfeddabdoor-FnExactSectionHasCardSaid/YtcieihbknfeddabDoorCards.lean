/-
  DERIVED. GIVEN WITH THE SEED: THE CARDS: each row of YtcieihbknfeddabDoorRows.lean that lists a variable, with what it lists TIED to the program's text (the seventh form; the later family's looks); each row that meets fmt, with fmt's text TOLD by the authors' own Lean function (tested against real Go, not proved from fmt's source: count such statements apart). THE CARD IS WHAT COUNTS. Prove the row's statement (the work); the ties are given (YtcieihbknfeddabDoorTie.lean); close each card by the builder's one call (the guide's Derived/Test/ToyasCard.lean, 'card_holds'). Laid BY PROGRAM, IN A SANDBOX (cutbox-door.mjs). By AI agents, Wed Nov 11 2026. No macro, syntax, notation, axiom, sorry.
-/
import Derived.Test.YtcieihbknfeddabDoorRows
import GoSem.ClaimSeven
namespace Go.Proofs.YtcieihbknfeddabDoor
namespace Rows

/-- THE TIED CARD OF 'laws.FnExactDivisorIn'. -/
def fnExactDivisorInCard : Claim7 := { stood := { row := fnExactDivisorInRow, standIns := [], harness := (true, "8d15d109da02d273a6e0ecd5a6ea8fb8c4972b5f0d958bce9118239a7fc7a013"), looks := true }, kinds := [], alts := [], laidByText := true, laidKinds := [.handle], laidTests := true, laidLooks := .later }
def FnExactDivisorInCardSaid : Prop := Claim7.holds Tryd.pinned (.plain (OpenSpec.ofChange fnExactDivisorInSpec)) fnExactDivisorInCard

/-- THE TIED CARD OF 'laws.FnExactDivisorOf'. -/
def fnExactDivisorOfCard : Claim7 := { stood := { row := fnExactDivisorOfRow, standIns := [], harness := (true, "8d15d109da02d273a6e0ecd5a6ea8fb8c4972b5f0d958bce9118239a7fc7a013"), looks := true }, kinds := [], alts := [], laidByText := true, laidKinds := [.handle], laidTests := true, laidLooks := .later }
def FnExactDivisorOfCardSaid : Prop := Claim7.holds Tryd.pinned (.plain (OpenSpec.ofChange fnExactDivisorOfSpec)) fnExactDivisorOfCard

/-- THE TIED CARD OF 'laws.FnExactDivisorAdd'. -/
def fnExactDivisorAddCard : Claim7 := { stood := { row := fnExactDivisorAddRow, standIns := [], harness := (true, "8d15d109da02d273a6e0ecd5a6ea8fb8c4972b5f0d958bce9118239a7fc7a013"), looks := true }, kinds := [], alts := [], laidByText := true, laidKinds := [.handle], laidTests := true, laidLooks := .later }
def FnExactDivisorAddCardSaid : Prop := Claim7.holds Tryd.pinned (.plain (OpenSpec.ofChange fnExactDivisorAddSpec)) fnExactDivisorAddCard

/-- THE TIED CARD OF 'laws.FnExactDivisorTimes'. -/
def fnExactDivisorTimesCard : Claim7 := { stood := { row := fnExactDivisorTimesRow, standIns := [], harness := (true, "8d15d109da02d273a6e0ecd5a6ea8fb8c4972b5f0d958bce9118239a7fc7a013"), looks := true }, kinds := [], alts := [], laidByText := true, laidKinds := [.handle], laidTests := true, laidLooks := .later }
def FnExactDivisorTimesCardSaid : Prop := Claim7.holds Tryd.pinned (.plain (OpenSpec.ofChange fnExactDivisorTimesSpec)) fnExactDivisorTimesCard

/-- THE TIED CARD OF 'laws.FnExactDivisorProduct'. -/
def fnExactDivisorProductCard : Claim7 := { stood := { row := fnExactDivisorProductRow, standIns := [], harness := (true, "8d15d109da02d273a6e0ecd5a6ea8fb8c4972b5f0d958bce9118239a7fc7a013"), looks := true }, kinds := [], alts := [], laidByText := true, laidKinds := [.handle], laidTests := true, laidLooks := .later }
def FnExactDivisorProductCardSaid : Prop := Claim7.holds Tryd.pinned (.plain (OpenSpec.ofChange fnExactDivisorProductSpec)) fnExactDivisorProductCard

/-- THE TIED CARD OF 'laws.FnExactDivisorDegrees'. -/
def fnExactDivisorDegreesCard : Claim7 := { stood := { row := fnExactDivisorDegreesRow, standIns := [], harness := (true, "8d15d109da02d273a6e0ecd5a6ea8fb8c4972b5f0d958bce9118239a7fc7a013"), looks := true }, kinds := [], alts := [], laidByText := true, laidKinds := [.handle], laidTests := true, laidLooks := .later }
def FnExactDivisorDegreesCardSaid : Prop := Claim7.holds Tryd.pinned (.plain (OpenSpec.ofChange fnExactDivisorDegreesSpec)) fnExactDivisorDegreesCard

/-- THE TIED CARD OF 'laws.FnExactDivisorNef'. -/
def fnExactDivisorNefCard : Claim7 := { stood := { row := fnExactDivisorNefRow, standIns := [], harness := (true, "8d15d109da02d273a6e0ecd5a6ea8fb8c4972b5f0d958bce9118239a7fc7a013"), looks := true }, kinds := [], alts := [], laidByText := true, laidKinds := [.handle], laidTests := true, laidLooks := .later }
def FnExactDivisorNefCardSaid : Prop := Claim7.holds Tryd.pinned (.plain (OpenSpec.ofChange fnExactDivisorNefSpec)) fnExactDivisorNefCard

/-- THE TIED CARD OF 'laws.FnExactDivisorAmple'. -/
def fnExactDivisorAmpleCard : Claim7 := { stood := { row := fnExactDivisorAmpleRow, standIns := [], harness := (true, "8d15d109da02d273a6e0ecd5a6ea8fb8c4972b5f0d958bce9118239a7fc7a013"), looks := true }, kinds := [], alts := [], laidByText := true, laidKinds := [.handle], laidTests := true, laidLooks := .later }
def FnExactDivisorAmpleCardSaid : Prop := Claim7.holds Tryd.pinned (.plain (OpenSpec.ofChange fnExactDivisorAmpleSpec)) fnExactDivisorAmpleCard

/-- THE TIED CARD OF 'laws.FnExactDivisorEquivalent'. -/
def fnExactDivisorEquivalentCard : Claim7 := { stood := { row := fnExactDivisorEquivalentRow, standIns := [], harness := (true, "8d15d109da02d273a6e0ecd5a6ea8fb8c4972b5f0d958bce9118239a7fc7a013"), looks := true }, kinds := [], alts := [], laidByText := true, laidKinds := [.handle], laidTests := true, laidLooks := .later }
def FnExactDivisorEquivalentCardSaid : Prop := Claim7.holds Tryd.pinned (.plain (OpenSpec.ofChange fnExactDivisorEquivalentSpec)) fnExactDivisorEquivalentCard

/-- THE TIED CARD OF 'laws.FnExactDivisorCanonical'. -/
def fnExactDivisorCanonicalCard : Claim7 := { stood := { row := fnExactDivisorCanonicalRow, standIns := [], harness := (true, "8d15d109da02d273a6e0ecd5a6ea8fb8c4972b5f0d958bce9118239a7fc7a013"), looks := true }, kinds := [], alts := [], laidByText := true, laidKinds := [.handle], laidTests := true, laidLooks := .later }
def FnExactDivisorCanonicalCardSaid : Prop := Claim7.holds Tryd.pinned (.plain (OpenSpec.ofChange fnExactDivisorCanonicalSpec)) fnExactDivisorCanonicalCard

/-- THE TIED CARD OF 'laws.FnExactDivisorEuler'. -/
def fnExactDivisorEulerCard : Claim7 := { stood := { row := fnExactDivisorEulerRow, standIns := [], harness := (true, "8d15d109da02d273a6e0ecd5a6ea8fb8c4972b5f0d958bce9118239a7fc7a013"), looks := true }, kinds := [], alts := [], laidByText := true, laidKinds := [.handle], laidTests := true, laidLooks := .later }
def FnExactDivisorEulerCardSaid : Prop := Claim7.holds Tryd.pinned (.plain (OpenSpec.ofChange fnExactDivisorEulerSpec)) fnExactDivisorEulerCard

/-- THE TIED CARD OF 'laws.FnExactDivisorGenus'. -/
def fnExactDivisorGenusCard : Claim7 := { stood := { row := fnExactDivisorGenusRow, standIns := [], harness := (true, "8d15d109da02d273a6e0ecd5a6ea8fb8c4972b5f0d958bce9118239a7fc7a013"), looks := true }, kinds := [], alts := [], laidByText := true, laidKinds := [.handle], laidTests := true, laidLooks := .later }
def FnExactDivisorGenusCardSaid : Prop := Claim7.holds Tryd.pinned (.plain (OpenSpec.ofChange fnExactDivisorGenusSpec)) fnExactDivisorGenusCard

/-- THE TIED CARD OF 'laws.FnExactSectionBox'. -/
def fnExactSectionBoxCard : Claim7 := { stood := { row := fnExactSectionBoxRow, standIns := [], harness := (true, "8d15d109da02d273a6e0ecd5a6ea8fb8c4972b5f0d958bce9118239a7fc7a013"), looks := true }, kinds := [], alts := [], laidByText := true, laidKinds := [.handle], laidTests := true, laidLooks := .later }
def FnExactSectionBoxCardSaid : Prop := Claim7.holds Tryd.pinned (.plain (OpenSpec.ofChange fnExactSectionBoxSpec)) fnExactSectionBoxCard

/-- THE TIED CARD OF 'laws.FnExactSectionHas'. -/
def fnExactSectionHasCard : Claim7 := { stood := { row := fnExactSectionHasRow, standIns := [], harness := (true, "8d15d109da02d273a6e0ecd5a6ea8fb8c4972b5f0d958bce9118239a7fc7a013"), looks := true }, kinds := [], alts := [], laidByText := true, laidKinds := [.handle], laidTests := true, laidLooks := .later }
def FnExactSectionHasCardSaid : Prop := Claim7.holds Tryd.pinned (.plain (OpenSpec.ofChange fnExactSectionHasSpec)) fnExactSectionHasCard

/-- THE SECOND FORM's CARD OF 'laws.FnExactDivisorIn'. -/
def fnExactDivisorInUptoCard : Claim7 := { stood := { row := fnExactDivisorInUptoRow, standIns := [], harness := (true, "8d15d109da02d273a6e0ecd5a6ea8fb8c4972b5f0d958bce9118239a7fc7a013"), looks := true }, kinds := [], alts := [], laidByText := true, laidKinds := [.handle], laidTests := true, laidLooks := .later }
def FnExactDivisorInUptoCardSaid : Prop := Claim7.holds Tryd.pinned (.plain (OpenSpec.upto fnExactDivisorInSpec)) fnExactDivisorInUptoCard

/-- THE SECOND FORM's CARD OF 'laws.FnExactDivisorOf'. -/
def fnExactDivisorOfUptoCard : Claim7 := { stood := { row := fnExactDivisorOfUptoRow, standIns := [], harness := (true, "8d15d109da02d273a6e0ecd5a6ea8fb8c4972b5f0d958bce9118239a7fc7a013"), looks := true }, kinds := [], alts := [], laidByText := true, laidKinds := [.handle], laidTests := true, laidLooks := .later }
def FnExactDivisorOfUptoCardSaid : Prop := Claim7.holds Tryd.pinned (.plain (OpenSpec.upto fnExactDivisorOfSpec)) fnExactDivisorOfUptoCard

/-- THE SECOND FORM's CARD OF 'laws.FnExactDivisorAdd'. -/
def fnExactDivisorAddUptoCard : Claim7 := { stood := { row := fnExactDivisorAddUptoRow, standIns := [], harness := (true, "8d15d109da02d273a6e0ecd5a6ea8fb8c4972b5f0d958bce9118239a7fc7a013"), looks := true }, kinds := [], alts := [], laidByText := true, laidKinds := [.handle], laidTests := true, laidLooks := .later }
def FnExactDivisorAddUptoCardSaid : Prop := Claim7.holds Tryd.pinned (.plain (OpenSpec.upto fnExactDivisorAddSpec)) fnExactDivisorAddUptoCard

/-- THE SECOND FORM's CARD OF 'laws.FnExactDivisorTimes'. -/
def fnExactDivisorTimesUptoCard : Claim7 := { stood := { row := fnExactDivisorTimesUptoRow, standIns := [], harness := (true, "8d15d109da02d273a6e0ecd5a6ea8fb8c4972b5f0d958bce9118239a7fc7a013"), looks := true }, kinds := [], alts := [], laidByText := true, laidKinds := [.handle], laidTests := true, laidLooks := .later }
def FnExactDivisorTimesUptoCardSaid : Prop := Claim7.holds Tryd.pinned (.plain (OpenSpec.upto fnExactDivisorTimesSpec)) fnExactDivisorTimesUptoCard

/-- THE SECOND FORM's CARD OF 'laws.FnExactDivisorProduct'. -/
def fnExactDivisorProductUptoCard : Claim7 := { stood := { row := fnExactDivisorProductUptoRow, standIns := [], harness := (true, "8d15d109da02d273a6e0ecd5a6ea8fb8c4972b5f0d958bce9118239a7fc7a013"), looks := true }, kinds := [], alts := [], laidByText := true, laidKinds := [.handle], laidTests := true, laidLooks := .later }
def FnExactDivisorProductUptoCardSaid : Prop := Claim7.holds Tryd.pinned (.plain (OpenSpec.upto fnExactDivisorProductSpec)) fnExactDivisorProductUptoCard

/-- THE SECOND FORM's CARD OF 'laws.FnExactDivisorDegrees'. -/
def fnExactDivisorDegreesUptoCard : Claim7 := { stood := { row := fnExactDivisorDegreesUptoRow, standIns := [], harness := (true, "8d15d109da02d273a6e0ecd5a6ea8fb8c4972b5f0d958bce9118239a7fc7a013"), looks := true }, kinds := [], alts := [], laidByText := true, laidKinds := [.handle], laidTests := true, laidLooks := .later }
def FnExactDivisorDegreesUptoCardSaid : Prop := Claim7.holds Tryd.pinned (.plain (OpenSpec.upto fnExactDivisorDegreesSpec)) fnExactDivisorDegreesUptoCard

/-- THE SECOND FORM's CARD OF 'laws.FnExactDivisorNef'. -/
def fnExactDivisorNefUptoCard : Claim7 := { stood := { row := fnExactDivisorNefUptoRow, standIns := [], harness := (true, "8d15d109da02d273a6e0ecd5a6ea8fb8c4972b5f0d958bce9118239a7fc7a013"), looks := true }, kinds := [], alts := [], laidByText := true, laidKinds := [.handle], laidTests := true, laidLooks := .later }
def FnExactDivisorNefUptoCardSaid : Prop := Claim7.holds Tryd.pinned (.plain (OpenSpec.upto fnExactDivisorNefSpec)) fnExactDivisorNefUptoCard

/-- THE SECOND FORM's CARD OF 'laws.FnExactDivisorAmple'. -/
def fnExactDivisorAmpleUptoCard : Claim7 := { stood := { row := fnExactDivisorAmpleUptoRow, standIns := [], harness := (true, "8d15d109da02d273a6e0ecd5a6ea8fb8c4972b5f0d958bce9118239a7fc7a013"), looks := true }, kinds := [], alts := [], laidByText := true, laidKinds := [.handle], laidTests := true, laidLooks := .later }
def FnExactDivisorAmpleUptoCardSaid : Prop := Claim7.holds Tryd.pinned (.plain (OpenSpec.upto fnExactDivisorAmpleSpec)) fnExactDivisorAmpleUptoCard

/-- THE SECOND FORM's CARD OF 'laws.FnExactDivisorEquivalent'. -/
def fnExactDivisorEquivalentUptoCard : Claim7 := { stood := { row := fnExactDivisorEquivalentUptoRow, standIns := [], harness := (true, "8d15d109da02d273a6e0ecd5a6ea8fb8c4972b5f0d958bce9118239a7fc7a013"), looks := true }, kinds := [], alts := [], laidByText := true, laidKinds := [.handle], laidTests := true, laidLooks := .later }
def FnExactDivisorEquivalentUptoCardSaid : Prop := Claim7.holds Tryd.pinned (.plain (OpenSpec.upto fnExactDivisorEquivalentSpec)) fnExactDivisorEquivalentUptoCard

/-- THE SECOND FORM's CARD OF 'laws.FnExactDivisorCanonical'. -/
def fnExactDivisorCanonicalUptoCard : Claim7 := { stood := { row := fnExactDivisorCanonicalUptoRow, standIns := [], harness := (true, "8d15d109da02d273a6e0ecd5a6ea8fb8c4972b5f0d958bce9118239a7fc7a013"), looks := true }, kinds := [], alts := [], laidByText := true, laidKinds := [.handle], laidTests := true, laidLooks := .later }
def FnExactDivisorCanonicalUptoCardSaid : Prop := Claim7.holds Tryd.pinned (.plain (OpenSpec.upto fnExactDivisorCanonicalSpec)) fnExactDivisorCanonicalUptoCard

/-- THE SECOND FORM's CARD OF 'laws.FnExactDivisorEuler'. -/
def fnExactDivisorEulerUptoCard : Claim7 := { stood := { row := fnExactDivisorEulerUptoRow, standIns := [], harness := (true, "8d15d109da02d273a6e0ecd5a6ea8fb8c4972b5f0d958bce9118239a7fc7a013"), looks := true }, kinds := [], alts := [], laidByText := true, laidKinds := [.handle], laidTests := true, laidLooks := .later }
def FnExactDivisorEulerUptoCardSaid : Prop := Claim7.holds Tryd.pinned (.plain (OpenSpec.upto fnExactDivisorEulerSpec)) fnExactDivisorEulerUptoCard

/-- THE SECOND FORM's CARD OF 'laws.FnExactDivisorGenus'. -/
def fnExactDivisorGenusUptoCard : Claim7 := { stood := { row := fnExactDivisorGenusUptoRow, standIns := [], harness := (true, "8d15d109da02d273a6e0ecd5a6ea8fb8c4972b5f0d958bce9118239a7fc7a013"), looks := true }, kinds := [], alts := [], laidByText := true, laidKinds := [.handle], laidTests := true, laidLooks := .later }
def FnExactDivisorGenusUptoCardSaid : Prop := Claim7.holds Tryd.pinned (.plain (OpenSpec.upto fnExactDivisorGenusSpec)) fnExactDivisorGenusUptoCard

/-- THE SECOND FORM's CARD OF 'laws.FnExactSectionBox'. -/
def fnExactSectionBoxUptoCard : Claim7 := { stood := { row := fnExactSectionBoxUptoRow, standIns := [], harness := (true, "8d15d109da02d273a6e0ecd5a6ea8fb8c4972b5f0d958bce9118239a7fc7a013"), looks := true }, kinds := [], alts := [], laidByText := true, laidKinds := [.handle], laidTests := true, laidLooks := .later }
def FnExactSectionBoxUptoCardSaid : Prop := Claim7.holds Tryd.pinned (.plain (OpenSpec.upto fnExactSectionBoxSpec)) fnExactSectionBoxUptoCard

/-- THE SECOND FORM's CARD OF 'laws.FnExactSectionHas'. -/
def fnExactSectionHasUptoCard : Claim7 := { stood := { row := fnExactSectionHasUptoRow, standIns := [], harness := (true, "8d15d109da02d273a6e0ecd5a6ea8fb8c4972b5f0d958bce9118239a7fc7a013"), looks := true }, kinds := [], alts := [], laidByText := true, laidKinds := [.handle], laidTests := true, laidLooks := .later }
def FnExactSectionHasUptoCardSaid : Prop := Claim7.holds Tryd.pinned (.plain (OpenSpec.upto fnExactSectionHasSpec)) fnExactSectionHasUptoCard
end Rows
end Go.Proofs.YtcieihbknfeddabDoor
