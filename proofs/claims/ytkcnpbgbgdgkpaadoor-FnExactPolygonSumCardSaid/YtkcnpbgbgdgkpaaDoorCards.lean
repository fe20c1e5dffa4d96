/-
  DERIVED. GIVEN WITH THE SEED: THE CARDS: each row of YtkcnpbgbgdgkpaaDoorRows.lean that lists a variable, with what it lists TIED to the program's text (the seventh form; the later family's looks); each row that meets fmt, with fmt's text TOLD by the authors' own Lean function (tested against real Go, not proved from fmt's source: count such statements apart). THE CARD IS WHAT COUNTS. Prove the row's statement (the work); the ties are given (YtkcnpbgbgdgkpaaDoorTie.lean); close each card by the builder's one call (the guide's Derived/Test/ToyasCard.lean, 'card_holds'). Laid BY PROGRAM, IN A SANDBOX (cutbox-door.mjs). By AI agents, Wed Nov 11 2026. No macro, syntax, notation, axiom, sorry.
-/
import Derived.Test.YtkcnpbgbgdgkpaaDoorRows
import GoSem.ClaimSeven
namespace Go.Proofs.YtkcnpbgbgdgkpaaDoor
namespace Rows

/-- THE TIED CARD OF 'laws.FnExactPolygonOf'. -/
def fnExactPolygonOfCard : Claim7 := { stood := { row := fnExactPolygonOfRow, standIns := [], harness := (true, "8c3b47e1d3d8c66e7f869432d58f3c52800c72e9a7410b8dc6c77817c811d51e"), looks := true }, kinds := [], alts := [], laidByText := true, laidKinds := [.handle], laidTests := true, laidLooks := .later }
def FnExactPolygonOfCardSaid : Prop := Claim7.holds Tryd.pinned (.plain (OpenSpec.ofChange fnExactPolygonOfSpec)) fnExactPolygonOfCard

/-- THE TIED CARD OF 'laws.FnExactPolygonSum'. -/
def fnExactPolygonSumCard : Claim7 := { stood := { row := fnExactPolygonSumRow, standIns := [], harness := (true, "8c3b47e1d3d8c66e7f869432d58f3c52800c72e9a7410b8dc6c77817c811d51e"), looks := true }, kinds := [], alts := [], laidByText := true, laidKinds := [.handle], laidTests := true, laidLooks := .later }
def FnExactPolygonSumCardSaid : Prop := Claim7.holds Tryd.pinned (.plain (OpenSpec.ofChange fnExactPolygonSumSpec)) fnExactPolygonSumCard

/-- THE TIED CARD OF 'laws.FnExactPolygonMixed'. -/
def fnExactPolygonMixedCard : Claim7 := { stood := { row := fnExactPolygonMixedRow, standIns := [], harness := (true, "8c3b47e1d3d8c66e7f869432d58f3c52800c72e9a7410b8dc6c77817c811d51e"), looks := true }, kinds := [], alts := [], laidByText := true, laidKinds := [.handle], laidTests := true, laidLooks := .later }
def FnExactPolygonMixedCardSaid : Prop := Claim7.holds Tryd.pinned (.plain (OpenSpec.ofChange fnExactPolygonMixedSpec)) fnExactPolygonMixedCard

/-- THE TIED CARD OF 'laws.FnExactPolygonSame'. -/
def fnExactPolygonSameCard : Claim7 := { stood := { row := fnExactPolygonSameRow, standIns := [], harness := (true, "8c3b47e1d3d8c66e7f869432d58f3c52800c72e9a7410b8dc6c77817c811d51e"), looks := true }, kinds := [], alts := [], laidByText := true, laidKinds := [.handle], laidTests := true, laidLooks := .later }
def FnExactPolygonSameCardSaid : Prop := Claim7.holds Tryd.pinned (.plain (OpenSpec.ofChange fnExactPolygonSameSpec)) fnExactPolygonSameCard

/-- THE TIED CARD OF 'laws.FnExactReflexiveIn'. -/
def fnExactReflexiveInCard : Claim7 := { stood := { row := fnExactReflexiveInRow, standIns := [], harness := (true, "8c3b47e1d3d8c66e7f869432d58f3c52800c72e9a7410b8dc6c77817c811d51e"), looks := true }, kinds := [], alts := [], laidByText := true, laidKinds := [.handle], laidTests := true, laidLooks := .later }
def FnExactReflexiveInCardSaid : Prop := Claim7.holds Tryd.pinned (.plain (OpenSpec.ofChange fnExactReflexiveInSpec)) fnExactReflexiveInCard

/-- THE TIED CARD OF 'laws.FnExactFanConvex'. -/
def fnExactFanConvexCard : Claim7 := { stood := { row := fnExactFanConvexRow, standIns := [], harness := (true, "8c3b47e1d3d8c66e7f869432d58f3c52800c72e9a7410b8dc6c77817c811d51e"), looks := true }, kinds := [], alts := [], laidByText := true, laidKinds := [.handle], laidTests := true, laidLooks := .later }
def FnExactFanConvexCardSaid : Prop := Claim7.holds Tryd.pinned (.plain (OpenSpec.ofChange fnExactFanConvexSpec)) fnExactFanConvexCard

/-- THE SECOND FORM's CARD OF 'laws.FnExactPolygonOf'. -/
def fnExactPolygonOfUptoCard : Claim7 := { stood := { row := fnExactPolygonOfUptoRow, standIns := [], harness := (true, "8c3b47e1d3d8c66e7f869432d58f3c52800c72e9a7410b8dc6c77817c811d51e"), looks := true }, kinds := [], alts := [], laidByText := true, laidKinds := [.handle], laidTests := true, laidLooks := .later }
def FnExactPolygonOfUptoCardSaid : Prop := Claim7.holds Tryd.pinned (.plain (OpenSpec.upto fnExactPolygonOfSpec)) fnExactPolygonOfUptoCard

/-- THE SECOND FORM's CARD OF 'laws.FnExactPolygonSum'. -/
def fnExactPolygonSumUptoCard : Claim7 := { stood := { row := fnExactPolygonSumUptoRow, standIns := [], harness := (true, "8c3b47e1d3d8c66e7f869432d58f3c52800c72e9a7410b8dc6c77817c811d51e"), looks := true }, kinds := [], alts := [], laidByText := true, laidKinds := [.handle], laidTests := true, laidLooks := .later }
def FnExactPolygonSumUptoCardSaid : Prop := Claim7.holds Tryd.pinned (.plain (OpenSpec.upto fnExactPolygonSumSpec)) fnExactPolygonSumUptoCard

/-- THE SECOND FORM's CARD OF 'laws.FnExactPolygonMixed'. -/
def fnExactPolygonMixedUptoCard : Claim7 := { stood := { row := fnExactPolygonMixedUptoRow, standIns := [], harness := (true, "8c3b47e1d3d8c66e7f869432d58f3c52800c72e9a7410b8dc6c77817c811d51e"), looks := true }, kinds := [], alts := [], laidByText := true, laidKinds := [.handle], laidTests := true, laidLooks := .later }
def FnExactPolygonMixedUptoCardSaid : Prop := Claim7.holds Tryd.pinned (.plain (OpenSpec.upto fnExactPolygonMixedSpec)) fnExactPolygonMixedUptoCard

/-- THE SECOND FORM's CARD OF 'laws.FnExactPolygonSame'. -/
def fnExactPolygonSameUptoCard : Claim7 := { stood := { row := fnExactPolygonSameUptoRow, standIns := [], harness := (true, "8c3b47e1d3d8c66e7f869432d58f3c52800c72e9a7410b8dc6c77817c811d51e"), looks := true }, kinds := [], alts := [], laidByText := true, laidKinds := [.handle], laidTests := true, laidLooks := .later }
def FnExactPolygonSameUptoCardSaid : Prop := Claim7.holds Tryd.pinned (.plain (OpenSpec.upto fnExactPolygonSameSpec)) fnExactPolygonSameUptoCard

/-- THE SECOND FORM's CARD OF 'laws.FnExactReflexiveIn'. -/
def fnExactReflexiveInUptoCard : Claim7 := { stood := { row := fnExactReflexiveInUptoRow, standIns := [], harness := (true, "8c3b47e1d3d8c66e7f869432d58f3c52800c72e9a7410b8dc6c77817c811d51e"), looks := true }, kinds := [], alts := [], laidByText := true, laidKinds := [.handle], laidTests := true, laidLooks := .later }
def FnExactReflexiveInUptoCardSaid : Prop := Claim7.holds Tryd.pinned (.plain (OpenSpec.upto fnExactReflexiveInSpec)) fnExactReflexiveInUptoCard

/-- THE SECOND FORM's CARD OF 'laws.FnExactFanConvex'. -/
def fnExactFanConvexUptoCard : Claim7 := { stood := { row := fnExactFanConvexUptoRow, standIns := [], harness := (true, "8c3b47e1d3d8c66e7f869432d58f3c52800c72e9a7410b8dc6c77817c811d51e"), looks := true }, kinds := [], alts := [], laidByText := true, laidKinds := [.handle], laidTests := true, laidLooks := .later }
def FnExactFanConvexUptoCardSaid : Prop := Claim7.holds Tryd.pinned (.plain (OpenSpec.upto fnExactFanConvexSpec)) fnExactFanConvexUptoCard
end Rows
end Go.Proofs.YtkcnpbgbgdgkpaaDoor
