/-
  DERIVED. GIVEN WITH THE SEED: THE CARDS: each row of YtdkdpfpfefpphabDoorRows.lean that lists a variable, with what it lists TIED to the program's text (the seventh form; the later family's looks); each row that meets fmt, with fmt's text TOLD by the authors' own Lean function (tested against real Go, not proved from fmt's source: count such statements apart). THE CARD IS WHAT COUNTS. Prove the row's statement (the work); the ties are given (YtdkdpfpfefpphabDoorTie.lean); close each card by the builder's one call (the guide's Derived/Test/ToyasCard.lean, 'card_holds'). Laid BY PROGRAM, IN A SANDBOX (cutbox-door.mjs). By AI agents, Wed Nov 11 2026. No macro, syntax, notation, axiom, sorry.
-/
import Derived.Test.YtdkdpfpfefpphabDoorRows
import GoSem.ClaimSeven
namespace Go.Proofs.YtdkdpfpfefpphabDoor
namespace Rows

/-- THE TIED CARD OF 'laws.FnExactMatTimes'. -/
def fnExactMatTimesCard : Claim7 := { stood := { row := fnExactMatTimesRow, standIns := [], harness := (true, "55a353cad7eef1b1f1c6c5cef5b73db0dde043bf05dc9b5c1fb8e53767834507"), looks := true }, kinds := [], alts := [], laidByText := true, laidKinds := [.handle], laidTests := true, laidLooks := .later }
def FnExactMatTimesCardSaid : Prop := Claim7.holds Tryd.pinned (.plain (OpenSpec.ofChange fnExactMatTimesSpec)) fnExactMatTimesCard

/-- THE TIED CARD OF 'laws.FnExactMatTurned'. -/
def fnExactMatTurnedCard : Claim7 := { stood := { row := fnExactMatTurnedRow, standIns := [], harness := (true, "55a353cad7eef1b1f1c6c5cef5b73db0dde043bf05dc9b5c1fb8e53767834507"), looks := true }, kinds := [], alts := [], laidByText := true, laidKinds := [.handle], laidTests := true, laidLooks := .later }
def FnExactMatTurnedCardSaid : Prop := Claim7.holds Tryd.pinned (.plain (OpenSpec.ofChange fnExactMatTurnedSpec)) fnExactMatTurnedCard

/-- THE SECOND FORM's CARD OF 'laws.FnExactMatTimes'. -/
def fnExactMatTimesUptoCard : Claim7 := { stood := { row := fnExactMatTimesUptoRow, standIns := [], harness := (true, "55a353cad7eef1b1f1c6c5cef5b73db0dde043bf05dc9b5c1fb8e53767834507"), looks := true }, kinds := [], alts := [], laidByText := true, laidKinds := [.handle], laidTests := true, laidLooks := .later }
def FnExactMatTimesUptoCardSaid : Prop := Claim7.holds Tryd.pinned (.plain (OpenSpec.upto fnExactMatTimesSpec)) fnExactMatTimesUptoCard

/-- THE SECOND FORM's CARD OF 'laws.FnExactMatTurned'. -/
def fnExactMatTurnedUptoCard : Claim7 := { stood := { row := fnExactMatTurnedUptoRow, standIns := [], harness := (true, "55a353cad7eef1b1f1c6c5cef5b73db0dde043bf05dc9b5c1fb8e53767834507"), looks := true }, kinds := [], alts := [], laidByText := true, laidKinds := [.handle], laidTests := true, laidLooks := .later }
def FnExactMatTurnedUptoCardSaid : Prop := Claim7.holds Tryd.pinned (.plain (OpenSpec.upto fnExactMatTurnedSpec)) fnExactMatTurnedUptoCard
end Rows
end Go.Proofs.YtdkdpfpfefpphabDoor
