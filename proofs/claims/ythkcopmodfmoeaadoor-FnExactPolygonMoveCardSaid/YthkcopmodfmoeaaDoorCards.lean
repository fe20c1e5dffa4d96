/-
  DERIVED. GIVEN WITH THE SEED: THE CARDS: each row of YthkcopmodfmoeaaDoorRows.lean that lists a variable, with what it lists TIED to the program's text (the seventh form; the later family's looks); each row that meets fmt, with fmt's text TOLD by the authors' own Lean function (tested against real Go, not proved from fmt's source: count such statements apart). THE CARD IS WHAT COUNTS. Prove the row's statement (the work); the ties are given (YthkcopmodfmoeaaDoorTie.lean); close each card by the builder's one call (the guide's Derived/Test/ToyasCard.lean, 'card_holds'). Laid BY PROGRAM, IN A SANDBOX (cutbox-door.mjs). By AI agents, Wed Nov 11 2026. No macro, syntax, notation, axiom, sorry.
-/
import Derived.Test.YthkcopmodfmoeaaDoorRows
import GoSem.ClaimSeven
namespace Go.Proofs.YthkcopmodfmoeaaDoor
namespace Rows

/-- THE TIED CARD OF 'laws.FnExactPolygonTidy'. -/
def fnExactPolygonTidyCard : Claim7 := { stood := { row := fnExactPolygonTidyRow, standIns := [], harness := (true, "f0668773520efb74f6d25b9864ad8b57c86551a1cbfa9963901f73e075d01394"), looks := true }, kinds := [], alts := [], laidByText := true, laidKinds := [.handle], laidTests := true, laidLooks := .later }
def FnExactPolygonTidyCardSaid : Prop := Claim7.holds Tryd.pinned (.plain (OpenSpec.ofChange fnExactPolygonTidySpec)) fnExactPolygonTidyCard

/-- THE TIED CARD OF 'laws.FnExactPolygonOf'. -/
def fnExactPolygonOfCard : Claim7 := { stood := { row := fnExactPolygonOfRow, standIns := [], harness := (true, "f0668773520efb74f6d25b9864ad8b57c86551a1cbfa9963901f73e075d01394"), looks := true }, kinds := [], alts := [], laidByText := true, laidKinds := [.handle], laidTests := true, laidLooks := .later }
def FnExactPolygonOfCardSaid : Prop := Claim7.holds Tryd.pinned (.plain (OpenSpec.ofChange fnExactPolygonOfSpec)) fnExactPolygonOfCard

/-- THE TIED CARD OF 'laws.FnExactPolygonSum'. -/
def fnExactPolygonSumCard : Claim7 := { stood := { row := fnExactPolygonSumRow, standIns := [], harness := (true, "f0668773520efb74f6d25b9864ad8b57c86551a1cbfa9963901f73e075d01394"), looks := true }, kinds := [], alts := [], laidByText := true, laidKinds := [.handle], laidTests := true, laidLooks := .later }
def FnExactPolygonSumCardSaid : Prop := Claim7.holds Tryd.pinned (.plain (OpenSpec.ofChange fnExactPolygonSumSpec)) fnExactPolygonSumCard

/-- THE TIED CARD OF 'laws.FnExactPolygonTimes'. -/
def fnExactPolygonTimesCard : Claim7 := { stood := { row := fnExactPolygonTimesRow, standIns := [], harness := (true, "f0668773520efb74f6d25b9864ad8b57c86551a1cbfa9963901f73e075d01394"), looks := true }, kinds := [], alts := [], laidByText := true, laidKinds := [.handle], laidTests := true, laidLooks := .later }
def FnExactPolygonTimesCardSaid : Prop := Claim7.holds Tryd.pinned (.plain (OpenSpec.ofChange fnExactPolygonTimesSpec)) fnExactPolygonTimesCard

/-- THE TIED CARD OF 'laws.FnExactPolygonShift'. -/
def fnExactPolygonShiftCard : Claim7 := { stood := { row := fnExactPolygonShiftRow, standIns := [], harness := (true, "f0668773520efb74f6d25b9864ad8b57c86551a1cbfa9963901f73e075d01394"), looks := true }, kinds := [], alts := [], laidByText := true, laidKinds := [.handle], laidTests := true, laidLooks := .later }
def FnExactPolygonShiftCardSaid : Prop := Claim7.holds Tryd.pinned (.plain (OpenSpec.ofChange fnExactPolygonShiftSpec)) fnExactPolygonShiftCard

/-- THE TIED CARD OF 'laws.FnExactPolygonMove'. -/
def fnExactPolygonMoveCard : Claim7 := { stood := { row := fnExactPolygonMoveRow, standIns := [], harness := (true, "f0668773520efb74f6d25b9864ad8b57c86551a1cbfa9963901f73e075d01394"), looks := true }, kinds := [], alts := [], laidByText := true, laidKinds := [.handle], laidTests := true, laidLooks := .later }
def FnExactPolygonMoveCardSaid : Prop := Claim7.holds Tryd.pinned (.plain (OpenSpec.ofChange fnExactPolygonMoveSpec)) fnExactPolygonMoveCard

/-- THE TIED CARD OF 'laws.FnExactPolygonMixed'. -/
def fnExactPolygonMixedCard : Claim7 := { stood := { row := fnExactPolygonMixedRow, standIns := [], harness := (true, "f0668773520efb74f6d25b9864ad8b57c86551a1cbfa9963901f73e075d01394"), looks := true }, kinds := [], alts := [], laidByText := true, laidKinds := [.handle], laidTests := true, laidLooks := .later }
def FnExactPolygonMixedCardSaid : Prop := Claim7.holds Tryd.pinned (.plain (OpenSpec.ofChange fnExactPolygonMixedSpec)) fnExactPolygonMixedCard

/-- THE TIED CARD OF 'laws.FnExactPolygonSame'. -/
def fnExactPolygonSameCard : Claim7 := { stood := { row := fnExactPolygonSameRow, standIns := [], harness := (true, "f0668773520efb74f6d25b9864ad8b57c86551a1cbfa9963901f73e075d01394"), looks := true }, kinds := [], alts := [], laidByText := true, laidKinds := [.handle], laidTests := true, laidLooks := .later }
def FnExactPolygonSameCardSaid : Prop := Claim7.holds Tryd.pinned (.plain (OpenSpec.ofChange fnExactPolygonSameSpec)) fnExactPolygonSameCard

/-- THE SECOND FORM's CARD OF 'laws.FnExactPolygonTidy'. -/
def fnExactPolygonTidyUptoCard : Claim7 := { stood := { row := fnExactPolygonTidyUptoRow, standIns := [], harness := (true, "f0668773520efb74f6d25b9864ad8b57c86551a1cbfa9963901f73e075d01394"), looks := true }, kinds := [], alts := [], laidByText := true, laidKinds := [.handle], laidTests := true, laidLooks := .later }
def FnExactPolygonTidyUptoCardSaid : Prop := Claim7.holds Tryd.pinned (.plain (OpenSpec.upto fnExactPolygonTidySpec)) fnExactPolygonTidyUptoCard

/-- THE SECOND FORM's CARD OF 'laws.FnExactPolygonOf'. -/
def fnExactPolygonOfUptoCard : Claim7 := { stood := { row := fnExactPolygonOfUptoRow, standIns := [], harness := (true, "f0668773520efb74f6d25b9864ad8b57c86551a1cbfa9963901f73e075d01394"), looks := true }, kinds := [], alts := [], laidByText := true, laidKinds := [.handle], laidTests := true, laidLooks := .later }
def FnExactPolygonOfUptoCardSaid : Prop := Claim7.holds Tryd.pinned (.plain (OpenSpec.upto fnExactPolygonOfSpec)) fnExactPolygonOfUptoCard

/-- THE SECOND FORM's CARD OF 'laws.FnExactPolygonSum'. -/
def fnExactPolygonSumUptoCard : Claim7 := { stood := { row := fnExactPolygonSumUptoRow, standIns := [], harness := (true, "f0668773520efb74f6d25b9864ad8b57c86551a1cbfa9963901f73e075d01394"), looks := true }, kinds := [], alts := [], laidByText := true, laidKinds := [.handle], laidTests := true, laidLooks := .later }
def FnExactPolygonSumUptoCardSaid : Prop := Claim7.holds Tryd.pinned (.plain (OpenSpec.upto fnExactPolygonSumSpec)) fnExactPolygonSumUptoCard

/-- THE SECOND FORM's CARD OF 'laws.FnExactPolygonTimes'. -/
def fnExactPolygonTimesUptoCard : Claim7 := { stood := { row := fnExactPolygonTimesUptoRow, standIns := [], harness := (true, "f0668773520efb74f6d25b9864ad8b57c86551a1cbfa9963901f73e075d01394"), looks := true }, kinds := [], alts := [], laidByText := true, laidKinds := [.handle], laidTests := true, laidLooks := .later }
def FnExactPolygonTimesUptoCardSaid : Prop := Claim7.holds Tryd.pinned (.plain (OpenSpec.upto fnExactPolygonTimesSpec)) fnExactPolygonTimesUptoCard

/-- THE SECOND FORM's CARD OF 'laws.FnExactPolygonShift'. -/
def fnExactPolygonShiftUptoCard : Claim7 := { stood := { row := fnExactPolygonShiftUptoRow, standIns := [], harness := (true, "f0668773520efb74f6d25b9864ad8b57c86551a1cbfa9963901f73e075d01394"), looks := true }, kinds := [], alts := [], laidByText := true, laidKinds := [.handle], laidTests := true, laidLooks := .later }
def FnExactPolygonShiftUptoCardSaid : Prop := Claim7.holds Tryd.pinned (.plain (OpenSpec.upto fnExactPolygonShiftSpec)) fnExactPolygonShiftUptoCard

/-- THE SECOND FORM's CARD OF 'laws.FnExactPolygonMove'. -/
def fnExactPolygonMoveUptoCard : Claim7 := { stood := { row := fnExactPolygonMoveUptoRow, standIns := [], harness := (true, "f0668773520efb74f6d25b9864ad8b57c86551a1cbfa9963901f73e075d01394"), looks := true }, kinds := [], alts := [], laidByText := true, laidKinds := [.handle], laidTests := true, laidLooks := .later }
def FnExactPolygonMoveUptoCardSaid : Prop := Claim7.holds Tryd.pinned (.plain (OpenSpec.upto fnExactPolygonMoveSpec)) fnExactPolygonMoveUptoCard

/-- THE SECOND FORM's CARD OF 'laws.FnExactPolygonMixed'. -/
def fnExactPolygonMixedUptoCard : Claim7 := { stood := { row := fnExactPolygonMixedUptoRow, standIns := [], harness := (true, "f0668773520efb74f6d25b9864ad8b57c86551a1cbfa9963901f73e075d01394"), looks := true }, kinds := [], alts := [], laidByText := true, laidKinds := [.handle], laidTests := true, laidLooks := .later }
def FnExactPolygonMixedUptoCardSaid : Prop := Claim7.holds Tryd.pinned (.plain (OpenSpec.upto fnExactPolygonMixedSpec)) fnExactPolygonMixedUptoCard

/-- THE SECOND FORM's CARD OF 'laws.FnExactPolygonSame'. -/
def fnExactPolygonSameUptoCard : Claim7 := { stood := { row := fnExactPolygonSameUptoRow, standIns := [], harness := (true, "f0668773520efb74f6d25b9864ad8b57c86551a1cbfa9963901f73e075d01394"), looks := true }, kinds := [], alts := [], laidByText := true, laidKinds := [.handle], laidTests := true, laidLooks := .later }
def FnExactPolygonSameUptoCardSaid : Prop := Claim7.holds Tryd.pinned (.plain (OpenSpec.upto fnExactPolygonSameSpec)) fnExactPolygonSameUptoCard
end Rows
end Go.Proofs.YthkcopmodfmoeaaDoor
