/-
  DERIVED. GIVEN WITH THE SEED: THE CARDS: each row of YtpimhndholckcaaDoorRows.lean that lists a variable, with what it lists TIED to the program's text (the seventh form; the later family's looks); each row that meets fmt, with fmt's text TOLD by the authors' own Lean function (tested against real Go, not proved from fmt's source: count such statements apart). THE CARD IS WHAT COUNTS. Prove the row's statement (the work); the ties are given (YtpimhndholckcaaDoorTie.lean); close each card by the builder's one call (the guide's Derived/Test/ToyasCard.lean, 'card_holds'). Laid BY PROGRAM, IN A SANDBOX (cutbox-door.mjs). By AI agents, Wed Nov 11 2026. No macro, syntax, notation, axiom, sorry.
-/
import Derived.Test.YtpimhndholckcaaDoorRows
import GoSem.ClaimSeven
namespace Go.Proofs.YtpimhndholckcaaDoor
namespace Rows

/-- THE TIED CARD OF 'laws.FnPick'. -/
def fnPickCard : Claim7 := { stood := { row := fnPickRow, standIns := [], harness := (true, "0b48b3fffa41ae32cae0282da12707dbef40a4177ea89ac95c18342582974fdc"), looks := true }, kinds := [], alts := [], laidByText := true, laidKinds := [.handle], laidTests := true, laidLooks := .later }
def FnPickCardSaid : Prop := Claim7.holds Tryd.pinned (.plain (OpenSpec.ofChange fnPickSpec)) fnPickCard

/-- THE TIED CARD OF 'laws.FnEdge'. -/
def fnEdgeCard : Claim7 := { stood := { row := fnEdgeRow, standIns := [], harness := (true, "0b48b3fffa41ae32cae0282da12707dbef40a4177ea89ac95c18342582974fdc"), looks := true }, kinds := [], alts := [], laidByText := true, laidKinds := [.handle], laidTests := true, laidLooks := .later }
def FnEdgeCardSaid : Prop := Claim7.holds Tryd.pinned (.plain (OpenSpec.ofChange fnEdgeSpec)) fnEdgeCard

/-- THE TIED CARD OF 'laws.FnPolygonTidy'. -/
def fnPolygonTidyCard : Claim7 := { stood := { row := fnPolygonTidyRow, standIns := [], harness := (true, "0b48b3fffa41ae32cae0282da12707dbef40a4177ea89ac95c18342582974fdc"), looks := true }, kinds := [], alts := [], laidByText := true, laidKinds := [.handle], laidTests := true, laidLooks := .later }
def FnPolygonTidyCardSaid : Prop := Claim7.holds Tryd.pinned (.plain (OpenSpec.ofChange fnPolygonTidySpec)) fnPolygonTidyCard

/-- THE TIED CARD OF 'laws.FnMixed'. -/
def fnMixedCard : Claim7 := { stood := { row := fnMixedRow, standIns := [], harness := (true, "0b48b3fffa41ae32cae0282da12707dbef40a4177ea89ac95c18342582974fdc"), looks := true }, kinds := [], alts := [], laidByText := true, laidKinds := [.handle], laidTests := true, laidLooks := .later }
def FnMixedCardSaid : Prop := Claim7.holds Tryd.pinned (.plain (OpenSpec.ofChange fnMixedSpec)) fnMixedCard

/-- THE SECOND FORM's CARD OF 'laws.FnPick'. -/
def fnPickUptoCard : Claim7 := { stood := { row := fnPickUptoRow, standIns := [], harness := (true, "0b48b3fffa41ae32cae0282da12707dbef40a4177ea89ac95c18342582974fdc"), looks := true }, kinds := [], alts := [], laidByText := true, laidKinds := [.handle], laidTests := true, laidLooks := .later }
def FnPickUptoCardSaid : Prop := Claim7.holds Tryd.pinned (.plain (OpenSpec.upto fnPickSpec)) fnPickUptoCard

/-- THE SECOND FORM's CARD OF 'laws.FnEdge'. -/
def fnEdgeUptoCard : Claim7 := { stood := { row := fnEdgeUptoRow, standIns := [], harness := (true, "0b48b3fffa41ae32cae0282da12707dbef40a4177ea89ac95c18342582974fdc"), looks := true }, kinds := [], alts := [], laidByText := true, laidKinds := [.handle], laidTests := true, laidLooks := .later }
def FnEdgeUptoCardSaid : Prop := Claim7.holds Tryd.pinned (.plain (OpenSpec.upto fnEdgeSpec)) fnEdgeUptoCard

/-- THE SECOND FORM's CARD OF 'laws.FnPolygonTidy'. -/
def fnPolygonTidyUptoCard : Claim7 := { stood := { row := fnPolygonTidyUptoRow, standIns := [], harness := (true, "0b48b3fffa41ae32cae0282da12707dbef40a4177ea89ac95c18342582974fdc"), looks := true }, kinds := [], alts := [], laidByText := true, laidKinds := [.handle], laidTests := true, laidLooks := .later }
def FnPolygonTidyUptoCardSaid : Prop := Claim7.holds Tryd.pinned (.plain (OpenSpec.upto fnPolygonTidySpec)) fnPolygonTidyUptoCard

/-- THE SECOND FORM's CARD OF 'laws.FnMixed'. -/
def fnMixedUptoCard : Claim7 := { stood := { row := fnMixedUptoRow, standIns := [], harness := (true, "0b48b3fffa41ae32cae0282da12707dbef40a4177ea89ac95c18342582974fdc"), looks := true }, kinds := [], alts := [], laidByText := true, laidKinds := [.handle], laidTests := true, laidLooks := .later }
def FnMixedUptoCardSaid : Prop := Claim7.holds Tryd.pinned (.plain (OpenSpec.upto fnMixedSpec)) fnMixedUptoCard
end Rows
end Go.Proofs.YtpimhndholckcaaDoor
