/-
  DERIVED. GIVEN WITH THE SEED: THE CARDS: each row of YtncjidkgbfilkabDoorRows.lean that lists a variable, with what it lists TIED to the program's text (the seventh form; the later family's looks); each row that meets fmt, with fmt's text TOLD by the authors' own Lean function (tested against real Go, not proved from fmt's source: count such statements apart). THE CARD IS WHAT COUNTS. Prove the row's statement (the work); the ties are given (YtncjidkgbfilkabDoorTie.lean); close each card by the builder's one call (the guide's Derived/Test/ToyasCard.lean, 'card_holds'). Laid BY PROGRAM, IN A SANDBOX (cutbox-door.mjs). By AI agents, Wed Nov 11 2026. No macro, syntax, notation, axiom, sorry.
-/
import Derived.Test.YtncjidkgbfilkabDoorRows
import GoSem.ClaimSeven
namespace Go.Proofs.YtncjidkgbfilkabDoor
namespace Rows

/-- THE TIED CARD OF 'laws.FnExactConeBase'. -/
def fnExactConeBaseCard : Claim7 := { stood := { row := fnExactConeBaseRow, standIns := [], harness := (true, "937ed2e7366132a4ea8b181d4baf433dfc01e3e4ee56d62df1e5d88fbd5e40c5"), looks := true }, kinds := [], alts := [], laidByText := true, laidKinds := [.handle], laidTests := true, laidLooks := .later }
def FnExactConeBaseCardSaid : Prop := Claim7.holds Tryd.pinned (.plain (OpenSpec.ofChange fnExactConeBaseSpec)) fnExactConeBaseCard

/-- THE TIED CARD OF 'laws.FnExactFractionValue'. -/
def fnExactFractionValueCard : Claim7 := { stood := { row := fnExactFractionValueRow, standIns := [], harness := (true, "937ed2e7366132a4ea8b181d4baf433dfc01e3e4ee56d62df1e5d88fbd5e40c5"), looks := true }, kinds := [], alts := [], laidByText := true, laidKinds := [.handle], laidTests := true, laidLooks := .later }
def FnExactFractionValueCardSaid : Prop := Claim7.holds Tryd.pinned (.plain (OpenSpec.ofChange fnExactFractionValueSpec)) fnExactFractionValueCard

/-- THE TIED CARD OF 'laws.FnExactFractionOther'. -/
def fnExactFractionOtherCard : Claim7 := { stood := { row := fnExactFractionOtherRow, standIns := [], harness := (true, "937ed2e7366132a4ea8b181d4baf433dfc01e3e4ee56d62df1e5d88fbd5e40c5"), looks := true }, kinds := [], alts := [], laidByText := true, laidKinds := [.handle], laidTests := true, laidLooks := .later }
def FnExactFractionOtherCardSaid : Prop := Claim7.holds Tryd.pinned (.plain (OpenSpec.ofChange fnExactFractionOtherSpec)) fnExactFractionOtherCard

/-- THE TIED CARD OF 'laws.FnFraction'. -/
def fnFractionCard : Claim7 := { stood := { row := fnFractionRow, standIns := [], harness := (true, "937ed2e7366132a4ea8b181d4baf433dfc01e3e4ee56d62df1e5d88fbd5e40c5"), looks := true }, kinds := [], alts := [], laidByText := true, laidKinds := [.handle], laidTests := true, laidLooks := .later }
def FnFractionCardSaid : Prop := Claim7.holds Tryd.pinned (.plain (OpenSpec.ofChange fnFractionSpec)) fnFractionCard

/-- THE TIED CARD OF 'laws.FnValue'. -/
def fnValueCard : Claim7 := { stood := { row := fnValueRow, standIns := [], harness := (true, "937ed2e7366132a4ea8b181d4baf433dfc01e3e4ee56d62df1e5d88fbd5e40c5"), looks := true }, kinds := [], alts := [], laidByText := true, laidKinds := [.handle], laidTests := true, laidLooks := .later }
def FnValueCardSaid : Prop := Claim7.holds Tryd.pinned (.plain (OpenSpec.ofChange fnValueSpec)) fnValueCard

/-- THE TIED CARD OF 'laws.FnOther'. -/
def fnOtherCard : Claim7 := { stood := { row := fnOtherRow, standIns := [], harness := (true, "937ed2e7366132a4ea8b181d4baf433dfc01e3e4ee56d62df1e5d88fbd5e40c5"), looks := true }, kinds := [], alts := [], laidByText := true, laidKinds := [.handle], laidTests := true, laidLooks := .later }
def FnOtherCardSaid : Prop := Claim7.holds Tryd.pinned (.plain (OpenSpec.ofChange fnOtherSpec)) fnOtherCard

/-- THE TIED CARD OF 'laws.FnMatTurned'. -/
def fnMatTurnedCard : Claim7 := { stood := { row := fnMatTurnedRow, standIns := [], harness := (true, "937ed2e7366132a4ea8b181d4baf433dfc01e3e4ee56d62df1e5d88fbd5e40c5"), looks := true }, kinds := [], alts := [], laidByText := true, laidKinds := [.handle], laidTests := true, laidLooks := .later }
def FnMatTurnedCardSaid : Prop := Claim7.holds Tryd.pinned (.plain (OpenSpec.ofChange fnMatTurnedSpec)) fnMatTurnedCard

/-- THE SECOND FORM's CARD OF 'laws.FnExactConeBase'. -/
def fnExactConeBaseUptoCard : Claim7 := { stood := { row := fnExactConeBaseUptoRow, standIns := [], harness := (true, "937ed2e7366132a4ea8b181d4baf433dfc01e3e4ee56d62df1e5d88fbd5e40c5"), looks := true }, kinds := [], alts := [], laidByText := true, laidKinds := [.handle], laidTests := true, laidLooks := .later }
def FnExactConeBaseUptoCardSaid : Prop := Claim7.holds Tryd.pinned (.plain (OpenSpec.upto fnExactConeBaseSpec)) fnExactConeBaseUptoCard

/-- THE SECOND FORM's CARD OF 'laws.FnExactFractionValue'. -/
def fnExactFractionValueUptoCard : Claim7 := { stood := { row := fnExactFractionValueUptoRow, standIns := [], harness := (true, "937ed2e7366132a4ea8b181d4baf433dfc01e3e4ee56d62df1e5d88fbd5e40c5"), looks := true }, kinds := [], alts := [], laidByText := true, laidKinds := [.handle], laidTests := true, laidLooks := .later }
def FnExactFractionValueUptoCardSaid : Prop := Claim7.holds Tryd.pinned (.plain (OpenSpec.upto fnExactFractionValueSpec)) fnExactFractionValueUptoCard

/-- THE SECOND FORM's CARD OF 'laws.FnExactFractionOther'. -/
def fnExactFractionOtherUptoCard : Claim7 := { stood := { row := fnExactFractionOtherUptoRow, standIns := [], harness := (true, "937ed2e7366132a4ea8b181d4baf433dfc01e3e4ee56d62df1e5d88fbd5e40c5"), looks := true }, kinds := [], alts := [], laidByText := true, laidKinds := [.handle], laidTests := true, laidLooks := .later }
def FnExactFractionOtherUptoCardSaid : Prop := Claim7.holds Tryd.pinned (.plain (OpenSpec.upto fnExactFractionOtherSpec)) fnExactFractionOtherUptoCard

/-- THE SECOND FORM's CARD OF 'laws.FnFraction'. -/
def fnFractionUptoCard : Claim7 := { stood := { row := fnFractionUptoRow, standIns := [], harness := (true, "937ed2e7366132a4ea8b181d4baf433dfc01e3e4ee56d62df1e5d88fbd5e40c5"), looks := true }, kinds := [], alts := [], laidByText := true, laidKinds := [.handle], laidTests := true, laidLooks := .later }
def FnFractionUptoCardSaid : Prop := Claim7.holds Tryd.pinned (.plain (OpenSpec.upto fnFractionSpec)) fnFractionUptoCard

/-- THE SECOND FORM's CARD OF 'laws.FnValue'. -/
def fnValueUptoCard : Claim7 := { stood := { row := fnValueUptoRow, standIns := [], harness := (true, "937ed2e7366132a4ea8b181d4baf433dfc01e3e4ee56d62df1e5d88fbd5e40c5"), looks := true }, kinds := [], alts := [], laidByText := true, laidKinds := [.handle], laidTests := true, laidLooks := .later }
def FnValueUptoCardSaid : Prop := Claim7.holds Tryd.pinned (.plain (OpenSpec.upto fnValueSpec)) fnValueUptoCard

/-- THE SECOND FORM's CARD OF 'laws.FnOther'. -/
def fnOtherUptoCard : Claim7 := { stood := { row := fnOtherUptoRow, standIns := [], harness := (true, "937ed2e7366132a4ea8b181d4baf433dfc01e3e4ee56d62df1e5d88fbd5e40c5"), looks := true }, kinds := [], alts := [], laidByText := true, laidKinds := [.handle], laidTests := true, laidLooks := .later }
def FnOtherUptoCardSaid : Prop := Claim7.holds Tryd.pinned (.plain (OpenSpec.upto fnOtherSpec)) fnOtherUptoCard

/-- THE SECOND FORM's CARD OF 'laws.FnMatTurned'. -/
def fnMatTurnedUptoCard : Claim7 := { stood := { row := fnMatTurnedUptoRow, standIns := [], harness := (true, "937ed2e7366132a4ea8b181d4baf433dfc01e3e4ee56d62df1e5d88fbd5e40c5"), looks := true }, kinds := [], alts := [], laidByText := true, laidKinds := [.handle], laidTests := true, laidLooks := .later }
def FnMatTurnedUptoCardSaid : Prop := Claim7.holds Tryd.pinned (.plain (OpenSpec.upto fnMatTurnedSpec)) fnMatTurnedUptoCard
end Rows
end Go.Proofs.YtncjidkgbfilkabDoor
