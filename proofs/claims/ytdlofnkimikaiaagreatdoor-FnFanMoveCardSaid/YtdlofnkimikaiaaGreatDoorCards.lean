/-
  DERIVED. GIVEN WITH THE SEED: THE CARDS: each row of YtdlofnkimikaiaaGreatDoorRows.lean that lists a variable, with what it lists TIED to the program's text (the seventh form; the later family's looks); each row that meets fmt, with fmt's text TOLD by the authors' own Lean function (tested against real Go, not proved from fmt's source: count such statements apart). THE CARD IS WHAT COUNTS. Prove the row's statement (the work); the ties are given (YtdlofnkimikaiaaGreatDoorTie.lean); close each card by the builder's one call (the guide's Derived/Test/ToyasCard.lean, 'card_holds'). Laid BY PROGRAM, IN A SANDBOX (cutbox-door.mjs). By AI agents, Wed Nov 11 2026. No macro, syntax, notation, axiom, sorry.
-/
import Derived.Test.YtdlofnkimikaiaaGreatDoorRows
import GoSem.ClaimSeven
namespace Go.Proofs.YtdlofnkimikaiaaGreatDoor
namespace Rows

/-- THE TIED CARD OF 'laws.FnFanKind'. -/
def fnFanKindCard : Claim7 := { stood := { row := fnFanKindRow, standIns := [], harness := (true, "685ce89403d0b439fb1e6ef8f50beedabd4c346325720179ccb28f1f236fc2e1"), looks := true }, kinds := [], alts := [], laidByText := true, laidKinds := [.handle], laidTests := true, laidLooks := .later }
def FnFanKindCardSaid : Prop := Claim7.holds Tryz.pinned (.plain (OpenSpec.ofChange fnFanKindSpec)) fnFanKindCard

/-- THE TIED CARD OF 'laws.FnFanMove'. -/
def fnFanMoveCard : Claim7 := { stood := { row := fnFanMoveRow, standIns := [], harness := (true, "685ce89403d0b439fb1e6ef8f50beedabd4c346325720179ccb28f1f236fc2e1"), looks := true }, kinds := [], alts := [], laidByText := true, laidKinds := [.handle], laidTests := true, laidLooks := .later }
def FnFanMoveCardSaid : Prop := Claim7.holds Tryz.pinned (.plain (OpenSpec.ofChange fnFanMoveSpec)) fnFanMoveCard

/-- THE SECOND FORM's CARD OF 'laws.FnFanKind'. -/
def fnFanKindUptoCard : Claim7 := { stood := { row := fnFanKindUptoRow, standIns := [], harness := (true, "685ce89403d0b439fb1e6ef8f50beedabd4c346325720179ccb28f1f236fc2e1"), looks := true }, kinds := [], alts := [], laidByText := true, laidKinds := [.handle], laidTests := true, laidLooks := .later }
def FnFanKindUptoCardSaid : Prop := Claim7.holds Tryz.pinned (.plain (OpenSpec.upto fnFanKindSpec)) fnFanKindUptoCard

/-- THE SECOND FORM's CARD OF 'laws.FnFanMove'. -/
def fnFanMoveUptoCard : Claim7 := { stood := { row := fnFanMoveUptoRow, standIns := [], harness := (true, "685ce89403d0b439fb1e6ef8f50beedabd4c346325720179ccb28f1f236fc2e1"), looks := true }, kinds := [], alts := [], laidByText := true, laidKinds := [.handle], laidTests := true, laidLooks := .later }
def FnFanMoveUptoCardSaid : Prop := Claim7.holds Tryz.pinned (.plain (OpenSpec.upto fnFanMoveSpec)) fnFanMoveUptoCard
end Rows
end Go.Proofs.YtdlofnkimikaiaaGreatDoor
