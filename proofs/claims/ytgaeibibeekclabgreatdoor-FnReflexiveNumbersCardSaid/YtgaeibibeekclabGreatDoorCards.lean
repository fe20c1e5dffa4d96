/-
  DERIVED. GIVEN WITH THE SEED: THE CARDS: each row of YtgaeibibeekclabGreatDoorRows.lean that lists a variable, with what it lists TIED to the program's text (the seventh form; the later family's looks); each row that meets fmt, with fmt's text TOLD by the authors' own Lean function (tested against real Go, not proved from fmt's source: count such statements apart). THE CARD IS WHAT COUNTS. Prove the row's statement (the work); the ties are given (YtgaeibibeekclabGreatDoorTie.lean); close each card by the builder's one call (the guide's Derived/Test/ToyasCard.lean, 'card_holds'). Laid BY PROGRAM, IN A SANDBOX (cutbox-door.mjs). By AI agents, Wed Nov 11 2026. No macro, syntax, notation, axiom, sorry.
-/
import Derived.Test.YtgaeibibeekclabGreatDoorRows
import GoSem.ClaimSeven
namespace Go.Proofs.YtgaeibibeekclabGreatDoor
namespace Rows

/-- THE TIED CARD OF 'laws.FnReflexive'. -/
def fnReflexiveCard : Claim7 := { stood := { row := fnReflexiveRow, standIns := [], harness := (true, "d8d8d0a4d6b3a4a07516e97c495fb1caac1e447244fdb00b5480dad5571006fc"), looks := true }, kinds := [], alts := [], laidByText := true, laidKinds := [.handle], laidTests := true, laidLooks := .later }
def FnReflexiveCardSaid : Prop := Claim7.holds Tryz.pinned (.plain (OpenSpec.ofChange fnReflexiveSpec)) fnReflexiveCard

/-- THE TIED CARD OF 'laws.FnReflexiveDual'. -/
def fnReflexiveDualCard : Claim7 := { stood := { row := fnReflexiveDualRow, standIns := [], harness := (true, "d8d8d0a4d6b3a4a07516e97c495fb1caac1e447244fdb00b5480dad5571006fc"), looks := true }, kinds := [], alts := [], laidByText := true, laidKinds := [.handle], laidTests := true, laidLooks := .later }
def FnReflexiveDualCardSaid : Prop := Claim7.holds Tryz.pinned (.plain (OpenSpec.ofChange fnReflexiveDualSpec)) fnReflexiveDualCard

/-- THE TIED CARD OF 'laws.FnTwelve'. -/
def fnTwelveCard : Claim7 := { stood := { row := fnTwelveRow, standIns := [], harness := (true, "d8d8d0a4d6b3a4a07516e97c495fb1caac1e447244fdb00b5480dad5571006fc"), looks := true }, kinds := [], alts := [], laidByText := true, laidKinds := [.handle], laidTests := true, laidLooks := .later }
def FnTwelveCardSaid : Prop := Claim7.holds Tryz.pinned (.plain (OpenSpec.ofChange fnTwelveSpec)) fnTwelveCard

/-- THE TIED CARD OF 'laws.FnReflexiveFan'. -/
def fnReflexiveFanCard : Claim7 := { stood := { row := fnReflexiveFanRow, standIns := [], harness := (true, "d8d8d0a4d6b3a4a07516e97c495fb1caac1e447244fdb00b5480dad5571006fc"), looks := true }, kinds := [], alts := [], laidByText := true, laidKinds := [.handle], laidTests := true, laidLooks := .later }
def FnReflexiveFanCardSaid : Prop := Claim7.holds Tryz.pinned (.plain (OpenSpec.ofChange fnReflexiveFanSpec)) fnReflexiveFanCard

/-- THE TIED CARD OF 'laws.FnReflexiveNumbers'. -/
def fnReflexiveNumbersCard : Claim7 := { stood := { row := fnReflexiveNumbersRow, standIns := [], harness := (true, "d8d8d0a4d6b3a4a07516e97c495fb1caac1e447244fdb00b5480dad5571006fc"), looks := true }, kinds := [], alts := [], laidByText := true, laidKinds := [.handle], laidTests := true, laidLooks := .later }
def FnReflexiveNumbersCardSaid : Prop := Claim7.holds Tryz.pinned (.plain (OpenSpec.ofChange fnReflexiveNumbersSpec)) fnReflexiveNumbersCard

/-- THE SECOND FORM's CARD OF 'laws.FnReflexive'. -/
def fnReflexiveUptoCard : Claim7 := { stood := { row := fnReflexiveUptoRow, standIns := [], harness := (true, "d8d8d0a4d6b3a4a07516e97c495fb1caac1e447244fdb00b5480dad5571006fc"), looks := true }, kinds := [], alts := [], laidByText := true, laidKinds := [.handle], laidTests := true, laidLooks := .later }
def FnReflexiveUptoCardSaid : Prop := Claim7.holds Tryz.pinned (.plain (OpenSpec.upto fnReflexiveSpec)) fnReflexiveUptoCard

/-- THE SECOND FORM's CARD OF 'laws.FnReflexiveDual'. -/
def fnReflexiveDualUptoCard : Claim7 := { stood := { row := fnReflexiveDualUptoRow, standIns := [], harness := (true, "d8d8d0a4d6b3a4a07516e97c495fb1caac1e447244fdb00b5480dad5571006fc"), looks := true }, kinds := [], alts := [], laidByText := true, laidKinds := [.handle], laidTests := true, laidLooks := .later }
def FnReflexiveDualUptoCardSaid : Prop := Claim7.holds Tryz.pinned (.plain (OpenSpec.upto fnReflexiveDualSpec)) fnReflexiveDualUptoCard

/-- THE SECOND FORM's CARD OF 'laws.FnTwelve'. -/
def fnTwelveUptoCard : Claim7 := { stood := { row := fnTwelveUptoRow, standIns := [], harness := (true, "d8d8d0a4d6b3a4a07516e97c495fb1caac1e447244fdb00b5480dad5571006fc"), looks := true }, kinds := [], alts := [], laidByText := true, laidKinds := [.handle], laidTests := true, laidLooks := .later }
def FnTwelveUptoCardSaid : Prop := Claim7.holds Tryz.pinned (.plain (OpenSpec.upto fnTwelveSpec)) fnTwelveUptoCard

/-- THE SECOND FORM's CARD OF 'laws.FnReflexiveFan'. -/
def fnReflexiveFanUptoCard : Claim7 := { stood := { row := fnReflexiveFanUptoRow, standIns := [], harness := (true, "d8d8d0a4d6b3a4a07516e97c495fb1caac1e447244fdb00b5480dad5571006fc"), looks := true }, kinds := [], alts := [], laidByText := true, laidKinds := [.handle], laidTests := true, laidLooks := .later }
def FnReflexiveFanUptoCardSaid : Prop := Claim7.holds Tryz.pinned (.plain (OpenSpec.upto fnReflexiveFanSpec)) fnReflexiveFanUptoCard

/-- THE SECOND FORM's CARD OF 'laws.FnReflexiveNumbers'. -/
def fnReflexiveNumbersUptoCard : Claim7 := { stood := { row := fnReflexiveNumbersUptoRow, standIns := [], harness := (true, "d8d8d0a4d6b3a4a07516e97c495fb1caac1e447244fdb00b5480dad5571006fc"), looks := true }, kinds := [], alts := [], laidByText := true, laidKinds := [.handle], laidTests := true, laidLooks := .later }
def FnReflexiveNumbersUptoCardSaid : Prop := Claim7.holds Tryz.pinned (.plain (OpenSpec.upto fnReflexiveNumbersSpec)) fnReflexiveNumbersUptoCard
end Rows
end Go.Proofs.YtgaeibibeekclabGreatDoor
