/-
  DERIVED. GIVEN WITH THE SEED: THE CARDS: each row of YtgaeibibeekclaaDoorRows.lean that lists a variable, with what it lists TIED to the program's text (the seventh form; the later family's looks); each row that meets fmt, with fmt's text TOLD by the authors' own Lean function (tested against real Go, not proved from fmt's source: count such statements apart). THE CARD IS WHAT COUNTS. Prove the row's statement (the work); the ties are given (YtgaeibibeekclaaDoorTie.lean); close each card by the builder's one call (the guide's Derived/Test/ToyasCard.lean, 'card_holds'). Laid BY PROGRAM, IN A SANDBOX (cutbox-door.mjs). By AI agents, Wed Nov 11 2026. No macro, syntax, notation, axiom, sorry.
-/
import Derived.Test.YtgaeibibeekclaaDoorRows
import GoSem.ClaimSeven
namespace Go.Proofs.YtgaeibibeekclaaDoor
namespace Rows

/-- THE TIED CARD OF 'laws.FnPolygonSum'. -/
def fnPolygonSumCard : Claim7 := { stood := { row := fnPolygonSumRow, standIns := [], harness := (true, "db521160cd9838ccfc41ac647ceacaa3e5032a3dd74e1e859b2b750eced87ceb"), looks := true }, kinds := [], alts := [], laidByText := true, laidKinds := [.handle], laidTests := true, laidLooks := .later }
def FnPolygonSumCardSaid : Prop := Claim7.holds Tryd.pinned (.plain (OpenSpec.ofChange fnPolygonSumSpec)) fnPolygonSumCard

/-- THE TIED CARD OF 'laws.FnPolygonTimes'. -/
def fnPolygonTimesCard : Claim7 := { stood := { row := fnPolygonTimesRow, standIns := [], harness := (true, "db521160cd9838ccfc41ac647ceacaa3e5032a3dd74e1e859b2b750eced87ceb"), looks := true }, kinds := [], alts := [], laidByText := true, laidKinds := [.handle], laidTests := true, laidLooks := .later }
def FnPolygonTimesCardSaid : Prop := Claim7.holds Tryd.pinned (.plain (OpenSpec.ofChange fnPolygonTimesSpec)) fnPolygonTimesCard

/-- THE TIED CARD OF 'laws.FnPolygon'. -/
def fnPolygonCard : Claim7 := { stood := { row := fnPolygonRow, standIns := [], harness := (true, "db521160cd9838ccfc41ac647ceacaa3e5032a3dd74e1e859b2b750eced87ceb"), looks := true }, kinds := [], alts := [], laidByText := true, laidKinds := [.handle], laidTests := true, laidLooks := .later }
def FnPolygonCardSaid : Prop := Claim7.holds Tryd.pinned (.plain (OpenSpec.ofChange fnPolygonSpec)) fnPolygonCard

/-- THE TIED CARD OF 'laws.FnHull'. -/
def fnHullCard : Claim7 := { stood := { row := fnHullRow, standIns := [], harness := (true, "db521160cd9838ccfc41ac647ceacaa3e5032a3dd74e1e859b2b750eced87ceb"), looks := true }, kinds := [], alts := [], laidByText := true, laidKinds := [.handle], laidTests := true, laidLooks := .later }
def FnHullCardSaid : Prop := Claim7.holds Tryd.pinned (.plain (OpenSpec.ofChange fnHullSpec)) fnHullCard

/-- THE TIED CARD OF 'laws.FnPolygonHas'. -/
def fnPolygonHasCard : Claim7 := { stood := { row := fnPolygonHasRow, standIns := [], harness := (true, "db521160cd9838ccfc41ac647ceacaa3e5032a3dd74e1e859b2b750eced87ceb"), looks := true }, kinds := [], alts := [], laidByText := true, laidKinds := [.handle], laidTests := true, laidLooks := .later }
def FnPolygonHasCardSaid : Prop := Claim7.holds Tryd.pinned (.plain (OpenSpec.ofChange fnPolygonHasSpec)) fnPolygonHasCard

/-- THE TIED CARD OF 'laws.FnExactPolygonSame'. -/
def fnExactPolygonSameCard : Claim7 := { stood := { row := fnExactPolygonSameRow, standIns := [], harness := (true, "db521160cd9838ccfc41ac647ceacaa3e5032a3dd74e1e859b2b750eced87ceb"), looks := true }, kinds := [], alts := [], laidByText := true, laidKinds := [.handle], laidTests := true, laidLooks := .later }
def FnExactPolygonSameCardSaid : Prop := Claim7.holds Tryd.pinned (.plain (OpenSpec.ofChange fnExactPolygonSameSpec)) fnExactPolygonSameCard

/-- THE SECOND FORM's CARD OF 'laws.FnPolygonSum'. -/
def fnPolygonSumUptoCard : Claim7 := { stood := { row := fnPolygonSumUptoRow, standIns := [], harness := (true, "db521160cd9838ccfc41ac647ceacaa3e5032a3dd74e1e859b2b750eced87ceb"), looks := true }, kinds := [], alts := [], laidByText := true, laidKinds := [.handle], laidTests := true, laidLooks := .later }
def FnPolygonSumUptoCardSaid : Prop := Claim7.holds Tryd.pinned (.plain (OpenSpec.upto fnPolygonSumSpec)) fnPolygonSumUptoCard

/-- THE SECOND FORM's CARD OF 'laws.FnPolygonTimes'. -/
def fnPolygonTimesUptoCard : Claim7 := { stood := { row := fnPolygonTimesUptoRow, standIns := [], harness := (true, "db521160cd9838ccfc41ac647ceacaa3e5032a3dd74e1e859b2b750eced87ceb"), looks := true }, kinds := [], alts := [], laidByText := true, laidKinds := [.handle], laidTests := true, laidLooks := .later }
def FnPolygonTimesUptoCardSaid : Prop := Claim7.holds Tryd.pinned (.plain (OpenSpec.upto fnPolygonTimesSpec)) fnPolygonTimesUptoCard

/-- THE SECOND FORM's CARD OF 'laws.FnPolygon'. -/
def fnPolygonUptoCard : Claim7 := { stood := { row := fnPolygonUptoRow, standIns := [], harness := (true, "db521160cd9838ccfc41ac647ceacaa3e5032a3dd74e1e859b2b750eced87ceb"), looks := true }, kinds := [], alts := [], laidByText := true, laidKinds := [.handle], laidTests := true, laidLooks := .later }
def FnPolygonUptoCardSaid : Prop := Claim7.holds Tryd.pinned (.plain (OpenSpec.upto fnPolygonSpec)) fnPolygonUptoCard

/-- THE SECOND FORM's CARD OF 'laws.FnHull'. -/
def fnHullUptoCard : Claim7 := { stood := { row := fnHullUptoRow, standIns := [], harness := (true, "db521160cd9838ccfc41ac647ceacaa3e5032a3dd74e1e859b2b750eced87ceb"), looks := true }, kinds := [], alts := [], laidByText := true, laidKinds := [.handle], laidTests := true, laidLooks := .later }
def FnHullUptoCardSaid : Prop := Claim7.holds Tryd.pinned (.plain (OpenSpec.upto fnHullSpec)) fnHullUptoCard

/-- THE SECOND FORM's CARD OF 'laws.FnPolygonHas'. -/
def fnPolygonHasUptoCard : Claim7 := { stood := { row := fnPolygonHasUptoRow, standIns := [], harness := (true, "db521160cd9838ccfc41ac647ceacaa3e5032a3dd74e1e859b2b750eced87ceb"), looks := true }, kinds := [], alts := [], laidByText := true, laidKinds := [.handle], laidTests := true, laidLooks := .later }
def FnPolygonHasUptoCardSaid : Prop := Claim7.holds Tryd.pinned (.plain (OpenSpec.upto fnPolygonHasSpec)) fnPolygonHasUptoCard

/-- THE SECOND FORM's CARD OF 'laws.FnExactPolygonSame'. -/
def fnExactPolygonSameUptoCard : Claim7 := { stood := { row := fnExactPolygonSameUptoRow, standIns := [], harness := (true, "db521160cd9838ccfc41ac647ceacaa3e5032a3dd74e1e859b2b750eced87ceb"), looks := true }, kinds := [], alts := [], laidByText := true, laidKinds := [.handle], laidTests := true, laidLooks := .later }
def FnExactPolygonSameUptoCardSaid : Prop := Claim7.holds Tryd.pinned (.plain (OpenSpec.upto fnExactPolygonSameSpec)) fnExactPolygonSameUptoCard
end Rows
end Go.Proofs.YtgaeibibeekclaaDoor
