/-
  DERIVED. GIVEN WITH THE SEED: THE CARDS: each row of YtomadlpdlmbmjaaDoorRows.lean that lists a variable, with what it lists TIED to the program's text (the seventh form; the later family's looks); each row that meets fmt, with fmt's text TOLD by the authors' own Lean function (tested against real Go, not proved from fmt's source: count such statements apart). THE CARD IS WHAT COUNTS. Prove the row's statement (the work); the ties are given (YtomadlpdlmbmjaaDoorTie.lean); close each card by the builder's one call (the guide's Derived/Test/ToyasCard.lean, 'card_holds'). Laid BY PROGRAM, IN A SANDBOX (cutbox-door.mjs). By AI agents, Wed Nov 11 2026. No macro, syntax, notation, axiom, sorry.
-/
import Derived.Test.YtomadlpdlmbmjaaDoorRows
import GoSem.ClaimSeven
namespace Go.Proofs.YtomadlpdlmbmjaaDoor
namespace Rows

/-- THE TIED CARD OF 'laws.FnPrimitive'. -/
def fnPrimitiveCard : Claim7 := { stood := { row := fnPrimitiveRow, standIns := [], harness := (true, "4d40e387e6c4a464f82d63b01b0055e3a1887d3c6aa472a043abbfccf9a96ce9"), looks := true }, kinds := [], alts := [], laidByText := true, laidKinds := [.handle], laidTests := true, laidLooks := .later }
def FnPrimitiveCardSaid : Prop := Claim7.holds Tryd.pinned (.plain (OpenSpec.ofChange fnPrimitiveSpec)) fnPrimitiveCard

/-- THE TIED CARD OF 'laws.FnExactVecPrimitive'. -/
def fnExactVecPrimitiveCard : Claim7 := { stood := { row := fnExactVecPrimitiveRow, standIns := [], harness := (true, "4d40e387e6c4a464f82d63b01b0055e3a1887d3c6aa472a043abbfccf9a96ce9"), looks := true }, kinds := [], alts := [], laidByText := true, laidKinds := [.handle], laidTests := true, laidLooks := .later }
def FnExactVecPrimitiveCardSaid : Prop := Claim7.holds Tryd.pinned (.plain (OpenSpec.ofChange fnExactVecPrimitiveSpec)) fnExactVecPrimitiveCard

/-- THE TIED CARD OF 'laws.FnExactPolygonIn'. -/
def fnExactPolygonInCard : Claim7 := { stood := { row := fnExactPolygonInRow, standIns := [], harness := (true, "4d40e387e6c4a464f82d63b01b0055e3a1887d3c6aa472a043abbfccf9a96ce9"), looks := true }, kinds := [], alts := [], laidByText := true, laidKinds := [.handle], laidTests := true, laidLooks := .later }
def FnExactPolygonInCardSaid : Prop := Claim7.holds Tryd.pinned (.plain (OpenSpec.ofChange fnExactPolygonInSpec)) fnExactPolygonInCard

/-- THE TIED CARD OF 'laws.FnExactPolygonHas'. -/
def fnExactPolygonHasCard : Claim7 := { stood := { row := fnExactPolygonHasRow, standIns := [], harness := (true, "4d40e387e6c4a464f82d63b01b0055e3a1887d3c6aa472a043abbfccf9a96ce9"), looks := true }, kinds := [], alts := [], laidByText := true, laidKinds := [.handle], laidTests := true, laidLooks := .later }
def FnExactPolygonHasCardSaid : Prop := Claim7.holds Tryd.pinned (.plain (OpenSpec.ofChange fnExactPolygonHasSpec)) fnExactPolygonHasCard

/-- THE TIED CARD OF 'laws.FnExactPolygonArea'. -/
def fnExactPolygonAreaCard : Claim7 := { stood := { row := fnExactPolygonAreaRow, standIns := [], harness := (true, "4d40e387e6c4a464f82d63b01b0055e3a1887d3c6aa472a043abbfccf9a96ce9"), looks := true }, kinds := [], alts := [], laidByText := true, laidKinds := [.handle], laidTests := true, laidLooks := .later }
def FnExactPolygonAreaCardSaid : Prop := Claim7.holds Tryd.pinned (.plain (OpenSpec.ofChange fnExactPolygonAreaSpec)) fnExactPolygonAreaCard

/-- THE TIED CARD OF 'laws.FnExactPolygonEdge'. -/
def fnExactPolygonEdgeCard : Claim7 := { stood := { row := fnExactPolygonEdgeRow, standIns := [], harness := (true, "4d40e387e6c4a464f82d63b01b0055e3a1887d3c6aa472a043abbfccf9a96ce9"), looks := true }, kinds := [], alts := [], laidByText := true, laidKinds := [.handle], laidTests := true, laidLooks := .later }
def FnExactPolygonEdgeCardSaid : Prop := Claim7.holds Tryd.pinned (.plain (OpenSpec.ofChange fnExactPolygonEdgeSpec)) fnExactPolygonEdgeCard

/-- THE TIED CARD OF 'laws.FnExactPolygonInner'. -/
def fnExactPolygonInnerCard : Claim7 := { stood := { row := fnExactPolygonInnerRow, standIns := [], harness := (true, "4d40e387e6c4a464f82d63b01b0055e3a1887d3c6aa472a043abbfccf9a96ce9"), looks := true }, kinds := [], alts := [], laidByText := true, laidKinds := [.handle], laidTests := true, laidLooks := .later }
def FnExactPolygonInnerCardSaid : Prop := Claim7.holds Tryd.pinned (.plain (OpenSpec.ofChange fnExactPolygonInnerSpec)) fnExactPolygonInnerCard

/-- THE TIED CARD OF 'laws.FnExactPolygonCount'. -/
def fnExactPolygonCountCard : Claim7 := { stood := { row := fnExactPolygonCountRow, standIns := [], harness := (true, "4d40e387e6c4a464f82d63b01b0055e3a1887d3c6aa472a043abbfccf9a96ce9"), looks := true }, kinds := [], alts := [], laidByText := true, laidKinds := [.handle], laidTests := true, laidLooks := .later }
def FnExactPolygonCountCardSaid : Prop := Claim7.holds Tryd.pinned (.plain (OpenSpec.ofChange fnExactPolygonCountSpec)) fnExactPolygonCountCard

/-- THE TIED CARD OF 'laws.FnExactPolygonNormals'. -/
def fnExactPolygonNormalsCard : Claim7 := { stood := { row := fnExactPolygonNormalsRow, standIns := [], harness := (true, "4d40e387e6c4a464f82d63b01b0055e3a1887d3c6aa472a043abbfccf9a96ce9"), looks := true }, kinds := [], alts := [], laidByText := true, laidKinds := [.handle], laidTests := true, laidLooks := .later }
def FnExactPolygonNormalsCardSaid : Prop := Claim7.holds Tryd.pinned (.plain (OpenSpec.ofChange fnExactPolygonNormalsSpec)) fnExactPolygonNormalsCard

/-- THE SECOND FORM's CARD OF 'laws.FnPrimitive'. -/
def fnPrimitiveUptoCard : Claim7 := { stood := { row := fnPrimitiveUptoRow, standIns := [], harness := (true, "4d40e387e6c4a464f82d63b01b0055e3a1887d3c6aa472a043abbfccf9a96ce9"), looks := true }, kinds := [], alts := [], laidByText := true, laidKinds := [.handle], laidTests := true, laidLooks := .later }
def FnPrimitiveUptoCardSaid : Prop := Claim7.holds Tryd.pinned (.plain (OpenSpec.upto fnPrimitiveSpec)) fnPrimitiveUptoCard

/-- THE SECOND FORM's CARD OF 'laws.FnExactVecPrimitive'. -/
def fnExactVecPrimitiveUptoCard : Claim7 := { stood := { row := fnExactVecPrimitiveUptoRow, standIns := [], harness := (true, "4d40e387e6c4a464f82d63b01b0055e3a1887d3c6aa472a043abbfccf9a96ce9"), looks := true }, kinds := [], alts := [], laidByText := true, laidKinds := [.handle], laidTests := true, laidLooks := .later }
def FnExactVecPrimitiveUptoCardSaid : Prop := Claim7.holds Tryd.pinned (.plain (OpenSpec.upto fnExactVecPrimitiveSpec)) fnExactVecPrimitiveUptoCard

/-- THE SECOND FORM's CARD OF 'laws.FnExactPolygonIn'. -/
def fnExactPolygonInUptoCard : Claim7 := { stood := { row := fnExactPolygonInUptoRow, standIns := [], harness := (true, "4d40e387e6c4a464f82d63b01b0055e3a1887d3c6aa472a043abbfccf9a96ce9"), looks := true }, kinds := [], alts := [], laidByText := true, laidKinds := [.handle], laidTests := true, laidLooks := .later }
def FnExactPolygonInUptoCardSaid : Prop := Claim7.holds Tryd.pinned (.plain (OpenSpec.upto fnExactPolygonInSpec)) fnExactPolygonInUptoCard

/-- THE SECOND FORM's CARD OF 'laws.FnExactPolygonHas'. -/
def fnExactPolygonHasUptoCard : Claim7 := { stood := { row := fnExactPolygonHasUptoRow, standIns := [], harness := (true, "4d40e387e6c4a464f82d63b01b0055e3a1887d3c6aa472a043abbfccf9a96ce9"), looks := true }, kinds := [], alts := [], laidByText := true, laidKinds := [.handle], laidTests := true, laidLooks := .later }
def FnExactPolygonHasUptoCardSaid : Prop := Claim7.holds Tryd.pinned (.plain (OpenSpec.upto fnExactPolygonHasSpec)) fnExactPolygonHasUptoCard

/-- THE SECOND FORM's CARD OF 'laws.FnExactPolygonArea'. -/
def fnExactPolygonAreaUptoCard : Claim7 := { stood := { row := fnExactPolygonAreaUptoRow, standIns := [], harness := (true, "4d40e387e6c4a464f82d63b01b0055e3a1887d3c6aa472a043abbfccf9a96ce9"), looks := true }, kinds := [], alts := [], laidByText := true, laidKinds := [.handle], laidTests := true, laidLooks := .later }
def FnExactPolygonAreaUptoCardSaid : Prop := Claim7.holds Tryd.pinned (.plain (OpenSpec.upto fnExactPolygonAreaSpec)) fnExactPolygonAreaUptoCard

/-- THE SECOND FORM's CARD OF 'laws.FnExactPolygonEdge'. -/
def fnExactPolygonEdgeUptoCard : Claim7 := { stood := { row := fnExactPolygonEdgeUptoRow, standIns := [], harness := (true, "4d40e387e6c4a464f82d63b01b0055e3a1887d3c6aa472a043abbfccf9a96ce9"), looks := true }, kinds := [], alts := [], laidByText := true, laidKinds := [.handle], laidTests := true, laidLooks := .later }
def FnExactPolygonEdgeUptoCardSaid : Prop := Claim7.holds Tryd.pinned (.plain (OpenSpec.upto fnExactPolygonEdgeSpec)) fnExactPolygonEdgeUptoCard

/-- THE SECOND FORM's CARD OF 'laws.FnExactPolygonInner'. -/
def fnExactPolygonInnerUptoCard : Claim7 := { stood := { row := fnExactPolygonInnerUptoRow, standIns := [], harness := (true, "4d40e387e6c4a464f82d63b01b0055e3a1887d3c6aa472a043abbfccf9a96ce9"), looks := true }, kinds := [], alts := [], laidByText := true, laidKinds := [.handle], laidTests := true, laidLooks := .later }
def FnExactPolygonInnerUptoCardSaid : Prop := Claim7.holds Tryd.pinned (.plain (OpenSpec.upto fnExactPolygonInnerSpec)) fnExactPolygonInnerUptoCard

/-- THE SECOND FORM's CARD OF 'laws.FnExactPolygonCount'. -/
def fnExactPolygonCountUptoCard : Claim7 := { stood := { row := fnExactPolygonCountUptoRow, standIns := [], harness := (true, "4d40e387e6c4a464f82d63b01b0055e3a1887d3c6aa472a043abbfccf9a96ce9"), looks := true }, kinds := [], alts := [], laidByText := true, laidKinds := [.handle], laidTests := true, laidLooks := .later }
def FnExactPolygonCountUptoCardSaid : Prop := Claim7.holds Tryd.pinned (.plain (OpenSpec.upto fnExactPolygonCountSpec)) fnExactPolygonCountUptoCard

/-- THE SECOND FORM's CARD OF 'laws.FnExactPolygonNormals'. -/
def fnExactPolygonNormalsUptoCard : Claim7 := { stood := { row := fnExactPolygonNormalsUptoRow, standIns := [], harness := (true, "4d40e387e6c4a464f82d63b01b0055e3a1887d3c6aa472a043abbfccf9a96ce9"), looks := true }, kinds := [], alts := [], laidByText := true, laidKinds := [.handle], laidTests := true, laidLooks := .later }
def FnExactPolygonNormalsUptoCardSaid : Prop := Claim7.holds Tryd.pinned (.plain (OpenSpec.upto fnExactPolygonNormalsSpec)) fnExactPolygonNormalsUptoCard
end Rows
end Go.Proofs.YtomadlpdlmbmjaaDoor
