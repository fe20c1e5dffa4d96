/-
  DERIVED. GIVEN WITH THE SEED: THE CARDS: each row of YtnhanbaaclkjaaaDoorRows.lean that lists a variable, with what it lists TIED to the program's text (the seventh form; the later family's looks); each row that meets fmt, with fmt's text TOLD by the authors' own Lean function (tested against real Go, not proved from fmt's source: count such statements apart). THE CARD IS WHAT COUNTS. Prove the row's statement (the work); the ties are given (YtnhanbaaclkjaaaDoorTie.lean); close each card by the builder's one call (the guide's Derived/Test/ToyasCard.lean, 'card_holds'). Laid BY PROGRAM, IN A SANDBOX (cutbox-door.mjs). By AI agents, Wed Nov 11 2026. No macro, syntax, notation, axiom, sorry.
-/
import Derived.Test.YtnhanbaaclkjaaaDoorRows
import GoSem.ClaimSeven
namespace Go.Proofs.YtnhanbaaclkjaaaDoor
namespace Rows

/-- THE TIED CARD OF 'laws.FnNumbers'. -/
def fnNumbersCard : Claim7 := { stood := { row := fnNumbersRow, standIns := [], harness := (true, "b7079b63977cd2b7d36b014266bc6e9dbf1b5a986eff2e2a1b2ad71e29263741"), looks := true }, kinds := [], alts := [], laidByText := true, laidKinds := [.handle], laidTests := true, laidLooks := .later }
def FnNumbersCardSaid : Prop := Claim7.holds Tryd.pinned (.plain (OpenSpec.ofChange fnNumbersSpec)) fnNumbersCard

/-- THE TIED CARD OF 'laws.FnSurfaceDet'. -/
def fnSurfaceDetCard : Claim7 := { stood := { row := fnSurfaceDetRow, standIns := [], harness := (true, "b7079b63977cd2b7d36b014266bc6e9dbf1b5a986eff2e2a1b2ad71e29263741"), looks := true }, kinds := [], alts := [], laidByText := true, laidKinds := [.handle], laidTests := true, laidLooks := .later }
def FnSurfaceDetCardSaid : Prop := Claim7.holds Tryd.pinned (.plain (OpenSpec.ofChange fnSurfaceDetSpec)) fnSurfaceDetCard

/-- THE TIED CARD OF 'laws.FnExactNumbersFan'. -/
def fnExactNumbersFanCard : Claim7 := { stood := { row := fnExactNumbersFanRow, standIns := [], harness := (true, "b7079b63977cd2b7d36b014266bc6e9dbf1b5a986eff2e2a1b2ad71e29263741"), looks := true }, kinds := [], alts := [], laidByText := true, laidKinds := [.handle], laidTests := true, laidLooks := .later }
def FnExactNumbersFanCardSaid : Prop := Claim7.holds Tryd.pinned (.plain (OpenSpec.ofChange fnExactNumbersFanSpec)) fnExactNumbersFanCard

/-- THE TIED CARD OF 'laws.FnExactNumbersSum'. -/
def fnExactNumbersSumCard : Claim7 := { stood := { row := fnExactNumbersSumRow, standIns := [], harness := (true, "b7079b63977cd2b7d36b014266bc6e9dbf1b5a986eff2e2a1b2ad71e29263741"), looks := true }, kinds := [], alts := [], laidByText := true, laidKinds := [.handle], laidTests := true, laidLooks := .later }
def FnExactNumbersSumCardSaid : Prop := Claim7.holds Tryd.pinned (.plain (OpenSpec.ofChange fnExactNumbersSumSpec)) fnExactNumbersSumCard

/-- THE TIED CARD OF 'laws.FnExactSurfaceRank'. -/
def fnExactSurfaceRankCard : Claim7 := { stood := { row := fnExactSurfaceRankRow, standIns := [], harness := (true, "b7079b63977cd2b7d36b014266bc6e9dbf1b5a986eff2e2a1b2ad71e29263741"), looks := true }, kinds := [], alts := [], laidByText := true, laidKinds := [.handle], laidTests := true, laidLooks := .later }
def FnExactSurfaceRankCardSaid : Prop := Claim7.holds Tryd.pinned (.plain (OpenSpec.ofChange fnExactSurfaceRankSpec)) fnExactSurfaceRankCard

/-- THE TIED CARD OF 'laws.FnExactSurfaceSquare'. -/
def fnExactSurfaceSquareCard : Claim7 := { stood := { row := fnExactSurfaceSquareRow, standIns := [], harness := (true, "b7079b63977cd2b7d36b014266bc6e9dbf1b5a986eff2e2a1b2ad71e29263741"), looks := true }, kinds := [], alts := [], laidByText := true, laidKinds := [.handle], laidTests := true, laidLooks := .later }
def FnExactSurfaceSquareCardSaid : Prop := Claim7.holds Tryd.pinned (.plain (OpenSpec.ofChange fnExactSurfaceSquareSpec)) fnExactSurfaceSquareCard

/-- THE TIED CARD OF 'laws.FnExactSurfaceTable'. -/
def fnExactSurfaceTableCard : Claim7 := { stood := { row := fnExactSurfaceTableRow, standIns := [], harness := (true, "b7079b63977cd2b7d36b014266bc6e9dbf1b5a986eff2e2a1b2ad71e29263741"), looks := true }, kinds := [], alts := [], laidByText := true, laidKinds := [.handle], laidTests := true, laidLooks := .later }
def FnExactSurfaceTableCardSaid : Prop := Claim7.holds Tryd.pinned (.plain (OpenSpec.ofChange fnExactSurfaceTableSpec)) fnExactSurfaceTableCard

/-- THE TIED CARD OF 'laws.FnExactSurfaceDet'. -/
def fnExactSurfaceDetCard : Claim7 := { stood := { row := fnExactSurfaceDetRow, standIns := [], harness := (true, "b7079b63977cd2b7d36b014266bc6e9dbf1b5a986eff2e2a1b2ad71e29263741"), looks := true }, kinds := [], alts := [], laidByText := true, laidKinds := [.handle], laidTests := true, laidLooks := .later }
def FnExactSurfaceDetCardSaid : Prop := Claim7.holds Tryd.pinned (.plain (OpenSpec.ofChange fnExactSurfaceDetSpec)) fnExactSurfaceDetCard

/-- THE TIED CARD OF 'laws.FnExactSurfaceAmple'. -/
def fnExactSurfaceAmpleCard : Claim7 := { stood := { row := fnExactSurfaceAmpleRow, standIns := [], harness := (true, "b7079b63977cd2b7d36b014266bc6e9dbf1b5a986eff2e2a1b2ad71e29263741"), looks := true }, kinds := [], alts := [], laidByText := true, laidKinds := [.handle], laidTests := true, laidLooks := .later }
def FnExactSurfaceAmpleCardSaid : Prop := Claim7.holds Tryd.pinned (.plain (OpenSpec.ofChange fnExactSurfaceAmpleSpec)) fnExactSurfaceAmpleCard

/-- THE SECOND FORM's CARD OF 'laws.FnNumbers'. -/
def fnNumbersUptoCard : Claim7 := { stood := { row := fnNumbersUptoRow, standIns := [], harness := (true, "b7079b63977cd2b7d36b014266bc6e9dbf1b5a986eff2e2a1b2ad71e29263741"), looks := true }, kinds := [], alts := [], laidByText := true, laidKinds := [.handle], laidTests := true, laidLooks := .later }
def FnNumbersUptoCardSaid : Prop := Claim7.holds Tryd.pinned (.plain (OpenSpec.upto fnNumbersSpec)) fnNumbersUptoCard

/-- THE SECOND FORM's CARD OF 'laws.FnSurfaceDet'. -/
def fnSurfaceDetUptoCard : Claim7 := { stood := { row := fnSurfaceDetUptoRow, standIns := [], harness := (true, "b7079b63977cd2b7d36b014266bc6e9dbf1b5a986eff2e2a1b2ad71e29263741"), looks := true }, kinds := [], alts := [], laidByText := true, laidKinds := [.handle], laidTests := true, laidLooks := .later }
def FnSurfaceDetUptoCardSaid : Prop := Claim7.holds Tryd.pinned (.plain (OpenSpec.upto fnSurfaceDetSpec)) fnSurfaceDetUptoCard

/-- THE SECOND FORM's CARD OF 'laws.FnExactNumbersFan'. -/
def fnExactNumbersFanUptoCard : Claim7 := { stood := { row := fnExactNumbersFanUptoRow, standIns := [], harness := (true, "b7079b63977cd2b7d36b014266bc6e9dbf1b5a986eff2e2a1b2ad71e29263741"), looks := true }, kinds := [], alts := [], laidByText := true, laidKinds := [.handle], laidTests := true, laidLooks := .later }
def FnExactNumbersFanUptoCardSaid : Prop := Claim7.holds Tryd.pinned (.plain (OpenSpec.upto fnExactNumbersFanSpec)) fnExactNumbersFanUptoCard

/-- THE SECOND FORM's CARD OF 'laws.FnExactNumbersSum'. -/
def fnExactNumbersSumUptoCard : Claim7 := { stood := { row := fnExactNumbersSumUptoRow, standIns := [], harness := (true, "b7079b63977cd2b7d36b014266bc6e9dbf1b5a986eff2e2a1b2ad71e29263741"), looks := true }, kinds := [], alts := [], laidByText := true, laidKinds := [.handle], laidTests := true, laidLooks := .later }
def FnExactNumbersSumUptoCardSaid : Prop := Claim7.holds Tryd.pinned (.plain (OpenSpec.upto fnExactNumbersSumSpec)) fnExactNumbersSumUptoCard

/-- THE SECOND FORM's CARD OF 'laws.FnExactSurfaceRank'. -/
def fnExactSurfaceRankUptoCard : Claim7 := { stood := { row := fnExactSurfaceRankUptoRow, standIns := [], harness := (true, "b7079b63977cd2b7d36b014266bc6e9dbf1b5a986eff2e2a1b2ad71e29263741"), looks := true }, kinds := [], alts := [], laidByText := true, laidKinds := [.handle], laidTests := true, laidLooks := .later }
def FnExactSurfaceRankUptoCardSaid : Prop := Claim7.holds Tryd.pinned (.plain (OpenSpec.upto fnExactSurfaceRankSpec)) fnExactSurfaceRankUptoCard

/-- THE SECOND FORM's CARD OF 'laws.FnExactSurfaceSquare'. -/
def fnExactSurfaceSquareUptoCard : Claim7 := { stood := { row := fnExactSurfaceSquareUptoRow, standIns := [], harness := (true, "b7079b63977cd2b7d36b014266bc6e9dbf1b5a986eff2e2a1b2ad71e29263741"), looks := true }, kinds := [], alts := [], laidByText := true, laidKinds := [.handle], laidTests := true, laidLooks := .later }
def FnExactSurfaceSquareUptoCardSaid : Prop := Claim7.holds Tryd.pinned (.plain (OpenSpec.upto fnExactSurfaceSquareSpec)) fnExactSurfaceSquareUptoCard

/-- THE SECOND FORM's CARD OF 'laws.FnExactSurfaceTable'. -/
def fnExactSurfaceTableUptoCard : Claim7 := { stood := { row := fnExactSurfaceTableUptoRow, standIns := [], harness := (true, "b7079b63977cd2b7d36b014266bc6e9dbf1b5a986eff2e2a1b2ad71e29263741"), looks := true }, kinds := [], alts := [], laidByText := true, laidKinds := [.handle], laidTests := true, laidLooks := .later }
def FnExactSurfaceTableUptoCardSaid : Prop := Claim7.holds Tryd.pinned (.plain (OpenSpec.upto fnExactSurfaceTableSpec)) fnExactSurfaceTableUptoCard

/-- THE SECOND FORM's CARD OF 'laws.FnExactSurfaceDet'. -/
def fnExactSurfaceDetUptoCard : Claim7 := { stood := { row := fnExactSurfaceDetUptoRow, standIns := [], harness := (true, "b7079b63977cd2b7d36b014266bc6e9dbf1b5a986eff2e2a1b2ad71e29263741"), looks := true }, kinds := [], alts := [], laidByText := true, laidKinds := [.handle], laidTests := true, laidLooks := .later }
def FnExactSurfaceDetUptoCardSaid : Prop := Claim7.holds Tryd.pinned (.plain (OpenSpec.upto fnExactSurfaceDetSpec)) fnExactSurfaceDetUptoCard

/-- THE SECOND FORM's CARD OF 'laws.FnExactSurfaceAmple'. -/
def fnExactSurfaceAmpleUptoCard : Claim7 := { stood := { row := fnExactSurfaceAmpleUptoRow, standIns := [], harness := (true, "b7079b63977cd2b7d36b014266bc6e9dbf1b5a986eff2e2a1b2ad71e29263741"), looks := true }, kinds := [], alts := [], laidByText := true, laidKinds := [.handle], laidTests := true, laidLooks := .later }
def FnExactSurfaceAmpleUptoCardSaid : Prop := Claim7.holds Tryd.pinned (.plain (OpenSpec.upto fnExactSurfaceAmpleSpec)) fnExactSurfaceAmpleUptoCard
end Rows
end Go.Proofs.YtnhanbaaclkjaaaDoor
