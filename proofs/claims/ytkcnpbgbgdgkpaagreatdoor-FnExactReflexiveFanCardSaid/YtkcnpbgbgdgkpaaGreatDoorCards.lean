/-
  DERIVED. GIVEN WITH THE SEED: THE CARDS: each row of YtkcnpbgbgdgkpaaGreatDoorRows.lean that lists a variable, with what it lists TIED to the program's text (the seventh form; the later family's looks); each row that meets fmt, with fmt's text TOLD by the authors' own Lean function (tested against real Go, not proved from fmt's source: count such statements apart). THE CARD IS WHAT COUNTS. Prove the row's statement (the work); the ties are given (YtkcnpbgbgdgkpaaGreatDoorTie.lean); close each card by the builder's one call (the guide's Derived/Test/ToyasCard.lean, 'card_holds'). Laid BY PROGRAM, IN A SANDBOX (cutbox-door.mjs). By AI agents, Wed Nov 11 2026. No macro, syntax, notation, axiom, sorry.
-/
import Derived.Test.YtkcnpbgbgdgkpaaGreatDoorRows
import GoSem.ClaimSeven
namespace Go.Proofs.YtkcnpbgbgdgkpaaGreatDoor
namespace Rows

/-- THE TIED CARD OF 'laws.FnExactReflexiveDual'. -/
def fnExactReflexiveDualCard : Claim7 := { stood := { row := fnExactReflexiveDualRow, standIns := [], harness := (true, "0952ec124f9d490bde73410f30ce181230bbe34cf7382dc83656f4ca343e8f3b"), looks := true }, kinds := [], alts := [], laidByText := true, laidKinds := [.handle], laidTests := true, laidLooks := .later }
def FnExactReflexiveDualCardSaid : Prop := Claim7.holds Tryz.pinned (.plain (OpenSpec.ofChange fnExactReflexiveDualSpec)) fnExactReflexiveDualCard

/-- THE TIED CARD OF 'laws.FnExactReflexiveTwelve'. -/
def fnExactReflexiveTwelveCard : Claim7 := { stood := { row := fnExactReflexiveTwelveRow, standIns := [], harness := (true, "0952ec124f9d490bde73410f30ce181230bbe34cf7382dc83656f4ca343e8f3b"), looks := true }, kinds := [], alts := [], laidByText := true, laidKinds := [.handle], laidTests := true, laidLooks := .later }
def FnExactReflexiveTwelveCardSaid : Prop := Claim7.holds Tryz.pinned (.plain (OpenSpec.ofChange fnExactReflexiveTwelveSpec)) fnExactReflexiveTwelveCard

/-- THE TIED CARD OF 'laws.FnExactReflexiveFan'. -/
def fnExactReflexiveFanCard : Claim7 := { stood := { row := fnExactReflexiveFanRow, standIns := [], harness := (true, "0952ec124f9d490bde73410f30ce181230bbe34cf7382dc83656f4ca343e8f3b"), looks := true }, kinds := [], alts := [], laidByText := true, laidKinds := [.handle], laidTests := true, laidLooks := .later }
def FnExactReflexiveFanCardSaid : Prop := Claim7.holds Tryz.pinned (.plain (OpenSpec.ofChange fnExactReflexiveFanSpec)) fnExactReflexiveFanCard

/-- THE TIED CARD OF 'laws.FnExactReflexiveNumbers'. -/
def fnExactReflexiveNumbersCard : Claim7 := { stood := { row := fnExactReflexiveNumbersRow, standIns := [], harness := (true, "0952ec124f9d490bde73410f30ce181230bbe34cf7382dc83656f4ca343e8f3b"), looks := true }, kinds := [], alts := [], laidByText := true, laidKinds := [.handle], laidTests := true, laidLooks := .later }
def FnExactReflexiveNumbersCardSaid : Prop := Claim7.holds Tryz.pinned (.plain (OpenSpec.ofChange fnExactReflexiveNumbersSpec)) fnExactReflexiveNumbersCard

/-- THE SECOND FORM's CARD OF 'laws.FnExactReflexiveDual'. -/
def fnExactReflexiveDualUptoCard : Claim7 := { stood := { row := fnExactReflexiveDualUptoRow, standIns := [], harness := (true, "0952ec124f9d490bde73410f30ce181230bbe34cf7382dc83656f4ca343e8f3b"), looks := true }, kinds := [], alts := [], laidByText := true, laidKinds := [.handle], laidTests := true, laidLooks := .later }
def FnExactReflexiveDualUptoCardSaid : Prop := Claim7.holds Tryz.pinned (.plain (OpenSpec.upto fnExactReflexiveDualSpec)) fnExactReflexiveDualUptoCard

/-- THE SECOND FORM's CARD OF 'laws.FnExactReflexiveTwelve'. -/
def fnExactReflexiveTwelveUptoCard : Claim7 := { stood := { row := fnExactReflexiveTwelveUptoRow, standIns := [], harness := (true, "0952ec124f9d490bde73410f30ce181230bbe34cf7382dc83656f4ca343e8f3b"), looks := true }, kinds := [], alts := [], laidByText := true, laidKinds := [.handle], laidTests := true, laidLooks := .later }
def FnExactReflexiveTwelveUptoCardSaid : Prop := Claim7.holds Tryz.pinned (.plain (OpenSpec.upto fnExactReflexiveTwelveSpec)) fnExactReflexiveTwelveUptoCard

/-- THE SECOND FORM's CARD OF 'laws.FnExactReflexiveFan'. -/
def fnExactReflexiveFanUptoCard : Claim7 := { stood := { row := fnExactReflexiveFanUptoRow, standIns := [], harness := (true, "0952ec124f9d490bde73410f30ce181230bbe34cf7382dc83656f4ca343e8f3b"), looks := true }, kinds := [], alts := [], laidByText := true, laidKinds := [.handle], laidTests := true, laidLooks := .later }
def FnExactReflexiveFanUptoCardSaid : Prop := Claim7.holds Tryz.pinned (.plain (OpenSpec.upto fnExactReflexiveFanSpec)) fnExactReflexiveFanUptoCard

/-- THE SECOND FORM's CARD OF 'laws.FnExactReflexiveNumbers'. -/
def fnExactReflexiveNumbersUptoCard : Claim7 := { stood := { row := fnExactReflexiveNumbersUptoRow, standIns := [], harness := (true, "0952ec124f9d490bde73410f30ce181230bbe34cf7382dc83656f4ca343e8f3b"), looks := true }, kinds := [], alts := [], laidByText := true, laidKinds := [.handle], laidTests := true, laidLooks := .later }
def FnExactReflexiveNumbersUptoCardSaid : Prop := Claim7.holds Tryz.pinned (.plain (OpenSpec.upto fnExactReflexiveNumbersSpec)) fnExactReflexiveNumbersUptoCard
end Rows
end Go.Proofs.YtkcnpbgbgdgkpaaGreatDoor
