/-
  DERIVED. GIVEN WITH THE SEED: THE CARDS: each row of YtpdbpfajkkkgdaaDoorRows.lean that lists a variable, with what it lists TIED to the program's text (the seventh form; the later family's looks); each row that meets fmt, with fmt's text TOLD by the authors' own Lean function (tested against real Go, not proved from fmt's source: count such statements apart). THE CARD IS WHAT COUNTS. Prove the row's statement (the work); the ties are given (YtpdbpfajkkkgdaaDoorTie.lean); close each card by the builder's one call (the guide's Derived/Test/ToyasCard.lean, 'card_holds'). Laid BY PROGRAM, IN A SANDBOX (cutbox-door.mjs). By AI agents, Wed Nov 11 2026. No macro, syntax, notation, axiom, sorry.
-/
import Derived.Test.YtpdbpfajkkkgdaaDoorRows
import GoSem.ClaimSeven
namespace Go.Proofs.YtpdbpfajkkkgdaaDoor
namespace Rows

/-- THE TIED CARD OF 'laws.FnExactDivisorIn'. -/
def fnExactDivisorInCard : Claim7 := { stood := { row := fnExactDivisorInRow, standIns := [], harness := (true, "acc50bccd06ad8929bc467520409a96901d77aadc751034e484680011efe2f4c"), looks := true }, kinds := [], alts := [], laidByText := true, laidKinds := [.handle], laidTests := true, laidLooks := .later }
def FnExactDivisorInCardSaid : Prop := Claim7.holds Tryd.pinned (.plain (OpenSpec.ofChange fnExactDivisorInSpec)) fnExactDivisorInCard

/-- THE TIED CARD OF 'laws.FnExactDivisorOf'. -/
def fnExactDivisorOfCard : Claim7 := { stood := { row := fnExactDivisorOfRow, standIns := [], harness := (true, "acc50bccd06ad8929bc467520409a96901d77aadc751034e484680011efe2f4c"), looks := true }, kinds := [], alts := [], laidByText := true, laidKinds := [.handle], laidTests := true, laidLooks := .later }
def FnExactDivisorOfCardSaid : Prop := Claim7.holds Tryd.pinned (.plain (OpenSpec.ofChange fnExactDivisorOfSpec)) fnExactDivisorOfCard

/-- THE TIED CARD OF 'laws.FnExactDivisorAdd'. -/
def fnExactDivisorAddCard : Claim7 := { stood := { row := fnExactDivisorAddRow, standIns := [], harness := (true, "acc50bccd06ad8929bc467520409a96901d77aadc751034e484680011efe2f4c"), looks := true }, kinds := [], alts := [], laidByText := true, laidKinds := [.handle], laidTests := true, laidLooks := .later }
def FnExactDivisorAddCardSaid : Prop := Claim7.holds Tryd.pinned (.plain (OpenSpec.ofChange fnExactDivisorAddSpec)) fnExactDivisorAddCard

/-- THE TIED CARD OF 'laws.FnExactDivisorTimes'. -/
def fnExactDivisorTimesCard : Claim7 := { stood := { row := fnExactDivisorTimesRow, standIns := [], harness := (true, "acc50bccd06ad8929bc467520409a96901d77aadc751034e484680011efe2f4c"), looks := true }, kinds := [], alts := [], laidByText := true, laidKinds := [.handle], laidTests := true, laidLooks := .later }
def FnExactDivisorTimesCardSaid : Prop := Claim7.holds Tryd.pinned (.plain (OpenSpec.ofChange fnExactDivisorTimesSpec)) fnExactDivisorTimesCard

/-- THE TIED CARD OF 'laws.FnExactDivisorProduct'. -/
def fnExactDivisorProductCard : Claim7 := { stood := { row := fnExactDivisorProductRow, standIns := [], harness := (true, "acc50bccd06ad8929bc467520409a96901d77aadc751034e484680011efe2f4c"), looks := true }, kinds := [], alts := [], laidByText := true, laidKinds := [.handle], laidTests := true, laidLooks := .later }
def FnExactDivisorProductCardSaid : Prop := Claim7.holds Tryd.pinned (.plain (OpenSpec.ofChange fnExactDivisorProductSpec)) fnExactDivisorProductCard

/-- THE TIED CARD OF 'laws.FnExactDivisorDegrees'. -/
def fnExactDivisorDegreesCard : Claim7 := { stood := { row := fnExactDivisorDegreesRow, standIns := [], harness := (true, "acc50bccd06ad8929bc467520409a96901d77aadc751034e484680011efe2f4c"), looks := true }, kinds := [], alts := [], laidByText := true, laidKinds := [.handle], laidTests := true, laidLooks := .later }
def FnExactDivisorDegreesCardSaid : Prop := Claim7.holds Tryd.pinned (.plain (OpenSpec.ofChange fnExactDivisorDegreesSpec)) fnExactDivisorDegreesCard

/-- THE TIED CARD OF 'laws.FnExactDivisorCanonical'. -/
def fnExactDivisorCanonicalCard : Claim7 := { stood := { row := fnExactDivisorCanonicalRow, standIns := [], harness := (true, "acc50bccd06ad8929bc467520409a96901d77aadc751034e484680011efe2f4c"), looks := true }, kinds := [], alts := [], laidByText := true, laidKinds := [.handle], laidTests := true, laidLooks := .later }
def FnExactDivisorCanonicalCardSaid : Prop := Claim7.holds Tryd.pinned (.plain (OpenSpec.ofChange fnExactDivisorCanonicalSpec)) fnExactDivisorCanonicalCard

/-- THE SECOND FORM's CARD OF 'laws.FnExactDivisorIn'. -/
def fnExactDivisorInUptoCard : Claim7 := { stood := { row := fnExactDivisorInUptoRow, standIns := [], harness := (true, "acc50bccd06ad8929bc467520409a96901d77aadc751034e484680011efe2f4c"), looks := true }, kinds := [], alts := [], laidByText := true, laidKinds := [.handle], laidTests := true, laidLooks := .later }
def FnExactDivisorInUptoCardSaid : Prop := Claim7.holds Tryd.pinned (.plain (OpenSpec.upto fnExactDivisorInSpec)) fnExactDivisorInUptoCard

/-- THE SECOND FORM's CARD OF 'laws.FnExactDivisorOf'. -/
def fnExactDivisorOfUptoCard : Claim7 := { stood := { row := fnExactDivisorOfUptoRow, standIns := [], harness := (true, "acc50bccd06ad8929bc467520409a96901d77aadc751034e484680011efe2f4c"), looks := true }, kinds := [], alts := [], laidByText := true, laidKinds := [.handle], laidTests := true, laidLooks := .later }
def FnExactDivisorOfUptoCardSaid : Prop := Claim7.holds Tryd.pinned (.plain (OpenSpec.upto fnExactDivisorOfSpec)) fnExactDivisorOfUptoCard

/-- THE SECOND FORM's CARD OF 'laws.FnExactDivisorAdd'. -/
def fnExactDivisorAddUptoCard : Claim7 := { stood := { row := fnExactDivisorAddUptoRow, standIns := [], harness := (true, "acc50bccd06ad8929bc467520409a96901d77aadc751034e484680011efe2f4c"), looks := true }, kinds := [], alts := [], laidByText := true, laidKinds := [.handle], laidTests := true, laidLooks := .later }
def FnExactDivisorAddUptoCardSaid : Prop := Claim7.holds Tryd.pinned (.plain (OpenSpec.upto fnExactDivisorAddSpec)) fnExactDivisorAddUptoCard

/-- THE SECOND FORM's CARD OF 'laws.FnExactDivisorTimes'. -/
def fnExactDivisorTimesUptoCard : Claim7 := { stood := { row := fnExactDivisorTimesUptoRow, standIns := [], harness := (true, "acc50bccd06ad8929bc467520409a96901d77aadc751034e484680011efe2f4c"), looks := true }, kinds := [], alts := [], laidByText := true, laidKinds := [.handle], laidTests := true, laidLooks := .later }
def FnExactDivisorTimesUptoCardSaid : Prop := Claim7.holds Tryd.pinned (.plain (OpenSpec.upto fnExactDivisorTimesSpec)) fnExactDivisorTimesUptoCard

/-- THE SECOND FORM's CARD OF 'laws.FnExactDivisorProduct'. -/
def fnExactDivisorProductUptoCard : Claim7 := { stood := { row := fnExactDivisorProductUptoRow, standIns := [], harness := (true, "acc50bccd06ad8929bc467520409a96901d77aadc751034e484680011efe2f4c"), looks := true }, kinds := [], alts := [], laidByText := true, laidKinds := [.handle], laidTests := true, laidLooks := .later }
def FnExactDivisorProductUptoCardSaid : Prop := Claim7.holds Tryd.pinned (.plain (OpenSpec.upto fnExactDivisorProductSpec)) fnExactDivisorProductUptoCard

/-- THE SECOND FORM's CARD OF 'laws.FnExactDivisorDegrees'. -/
def fnExactDivisorDegreesUptoCard : Claim7 := { stood := { row := fnExactDivisorDegreesUptoRow, standIns := [], harness := (true, "acc50bccd06ad8929bc467520409a96901d77aadc751034e484680011efe2f4c"), looks := true }, kinds := [], alts := [], laidByText := true, laidKinds := [.handle], laidTests := true, laidLooks := .later }
def FnExactDivisorDegreesUptoCardSaid : Prop := Claim7.holds Tryd.pinned (.plain (OpenSpec.upto fnExactDivisorDegreesSpec)) fnExactDivisorDegreesUptoCard

/-- THE SECOND FORM's CARD OF 'laws.FnExactDivisorCanonical'. -/
def fnExactDivisorCanonicalUptoCard : Claim7 := { stood := { row := fnExactDivisorCanonicalUptoRow, standIns := [], harness := (true, "acc50bccd06ad8929bc467520409a96901d77aadc751034e484680011efe2f4c"), looks := true }, kinds := [], alts := [], laidByText := true, laidKinds := [.handle], laidTests := true, laidLooks := .later }
def FnExactDivisorCanonicalUptoCardSaid : Prop := Claim7.holds Tryd.pinned (.plain (OpenSpec.upto fnExactDivisorCanonicalSpec)) fnExactDivisorCanonicalUptoCard
end Rows
end Go.Proofs.YtpdbpfajkkkgdaaDoor
