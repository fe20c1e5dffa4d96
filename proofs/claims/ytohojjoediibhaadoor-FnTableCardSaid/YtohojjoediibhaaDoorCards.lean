/-
  DERIVED. GIVEN WITH THE SEED: THE CARDS: each row of YtohojjoediibhaaDoorRows.lean that lists a variable, with what it lists TIED to the program's text (the seventh form; the later family's looks); each row that meets fmt, with fmt's text TOLD by the authors' own Lean function (tested against real Go, not proved from fmt's source: count such statements apart). THE CARD IS WHAT COUNTS. Prove the row's statement (the work); the ties are given (YtohojjoediibhaaDoorTie.lean); close each card by the builder's one call (the guide's Derived/Test/ToyasCard.lean, 'card_holds'). Laid BY PROGRAM, IN A SANDBOX (cutbox-door.mjs). By AI agents, Wed Nov 11 2026. No macro, syntax, notation, axiom, sorry.
-/
import Derived.Test.YtohojjoediibhaaDoorRows
import GoSem.ClaimSeven
namespace Go.Proofs.YtohojjoediibhaaDoor
namespace Rows

/-- THE TIED CARD OF 'laws.FnDivisor'. -/
def fnDivisorCard : Claim7 := { stood := { row := fnDivisorRow, standIns := [], harness := (true, "c96d2c7e3e019f55029ba45980bcb54dc943a4dda7263ba1ef787f06217653ca"), looks := true }, kinds := [], alts := [], laidByText := true, laidKinds := [.handle], laidTests := true, laidLooks := .later }
def FnDivisorCardSaid : Prop := Claim7.holds Tryd.pinned (.plain (OpenSpec.ofChange fnDivisorSpec)) fnDivisorCard

/-- THE TIED CARD OF 'laws.FnDivisorAdd'. -/
def fnDivisorAddCard : Claim7 := { stood := { row := fnDivisorAddRow, standIns := [], harness := (true, "c96d2c7e3e019f55029ba45980bcb54dc943a4dda7263ba1ef787f06217653ca"), looks := true }, kinds := [], alts := [], laidByText := true, laidKinds := [.handle], laidTests := true, laidLooks := .later }
def FnDivisorAddCardSaid : Prop := Claim7.holds Tryd.pinned (.plain (OpenSpec.ofChange fnDivisorAddSpec)) fnDivisorAddCard

/-- THE TIED CARD OF 'laws.FnDivisorTimes'. -/
def fnDivisorTimesCard : Claim7 := { stood := { row := fnDivisorTimesRow, standIns := [], harness := (true, "c96d2c7e3e019f55029ba45980bcb54dc943a4dda7263ba1ef787f06217653ca"), looks := true }, kinds := [], alts := [], laidByText := true, laidKinds := [.handle], laidTests := true, laidLooks := .later }
def FnDivisorTimesCardSaid : Prop := Claim7.holds Tryd.pinned (.plain (OpenSpec.ofChange fnDivisorTimesSpec)) fnDivisorTimesCard

/-- THE TIED CARD OF 'laws.FnNef'. -/
def fnNefCard : Claim7 := { stood := { row := fnNefRow, standIns := [], harness := (true, "c96d2c7e3e019f55029ba45980bcb54dc943a4dda7263ba1ef787f06217653ca"), looks := true }, kinds := [], alts := [], laidByText := true, laidKinds := [.handle], laidTests := true, laidLooks := .later }
def FnNefCardSaid : Prop := Claim7.holds Tryd.pinned (.plain (OpenSpec.ofChange fnNefSpec)) fnNefCard

/-- THE TIED CARD OF 'laws.FnAmple'. -/
def fnAmpleCard : Claim7 := { stood := { row := fnAmpleRow, standIns := [], harness := (true, "c96d2c7e3e019f55029ba45980bcb54dc943a4dda7263ba1ef787f06217653ca"), looks := true }, kinds := [], alts := [], laidByText := true, laidKinds := [.handle], laidTests := true, laidLooks := .later }
def FnAmpleCardSaid : Prop := Claim7.holds Tryd.pinned (.plain (OpenSpec.ofChange fnAmpleSpec)) fnAmpleCard

/-- THE TIED CARD OF 'laws.FnCanonical'. -/
def fnCanonicalCard : Claim7 := { stood := { row := fnCanonicalRow, standIns := [], harness := (true, "c96d2c7e3e019f55029ba45980bcb54dc943a4dda7263ba1ef787f06217653ca"), looks := true }, kinds := [], alts := [], laidByText := true, laidKinds := [.handle], laidTests := true, laidLooks := .later }
def FnCanonicalCardSaid : Prop := Claim7.holds Tryd.pinned (.plain (OpenSpec.ofChange fnCanonicalSpec)) fnCanonicalCard

/-- THE TIED CARD OF 'laws.FnDegrees'. -/
def fnDegreesCard : Claim7 := { stood := { row := fnDegreesRow, standIns := [], harness := (true, "c96d2c7e3e019f55029ba45980bcb54dc943a4dda7263ba1ef787f06217653ca"), looks := true }, kinds := [], alts := [], laidByText := true, laidKinds := [.handle], laidTests := true, laidLooks := .later }
def FnDegreesCardSaid : Prop := Claim7.holds Tryd.pinned (.plain (OpenSpec.ofChange fnDegreesSpec)) fnDegreesCard

/-- THE TIED CARD OF 'laws.FnSection'. -/
def fnSectionCard : Claim7 := { stood := { row := fnSectionRow, standIns := [], harness := (true, "c96d2c7e3e019f55029ba45980bcb54dc943a4dda7263ba1ef787f06217653ca"), looks := true }, kinds := [], alts := [], laidByText := true, laidKinds := [.handle], laidTests := true, laidLooks := .later }
def FnSectionCardSaid : Prop := Claim7.holds Tryd.pinned (.plain (OpenSpec.ofChange fnSectionSpec)) fnSectionCard

/-- THE TIED CARD OF 'laws.FnBlow'. -/
def fnBlowCard : Claim7 := { stood := { row := fnBlowRow, standIns := [], harness := (true, "c96d2c7e3e019f55029ba45980bcb54dc943a4dda7263ba1ef787f06217653ca"), looks := true }, kinds := [], alts := [], laidByText := true, laidKinds := [.handle], laidTests := true, laidLooks := .later }
def FnBlowCardSaid : Prop := Claim7.holds Tryd.pinned (.plain (OpenSpec.ofChange fnBlowSpec)) fnBlowCard

/-- THE TIED CARD OF 'laws.FnNumbersFan'. -/
def fnNumbersFanCard : Claim7 := { stood := { row := fnNumbersFanRow, standIns := [], harness := (true, "c96d2c7e3e019f55029ba45980bcb54dc943a4dda7263ba1ef787f06217653ca"), looks := true }, kinds := [], alts := [], laidByText := true, laidKinds := [.handle], laidTests := true, laidLooks := .later }
def FnNumbersFanCardSaid : Prop := Claim7.holds Tryd.pinned (.plain (OpenSpec.ofChange fnNumbersFanSpec)) fnNumbersFanCard

/-- THE TIED CARD OF 'laws.FnNumbersSum'. -/
def fnNumbersSumCard : Claim7 := { stood := { row := fnNumbersSumRow, standIns := [], harness := (true, "c96d2c7e3e019f55029ba45980bcb54dc943a4dda7263ba1ef787f06217653ca"), looks := true }, kinds := [], alts := [], laidByText := true, laidKinds := [.handle], laidTests := true, laidLooks := .later }
def FnNumbersSumCardSaid : Prop := Claim7.holds Tryd.pinned (.plain (OpenSpec.ofChange fnNumbersSumSpec)) fnNumbersSumCard

/-- THE TIED CARD OF 'laws.FnSurfaceKind'. -/
def fnSurfaceKindCard : Claim7 := { stood := { row := fnSurfaceKindRow, standIns := [], harness := (true, "c96d2c7e3e019f55029ba45980bcb54dc943a4dda7263ba1ef787f06217653ca"), looks := true }, kinds := [], alts := [], laidByText := true, laidKinds := [.handle], laidTests := true, laidLooks := .later }
def FnSurfaceKindCardSaid : Prop := Claim7.holds Tryd.pinned (.plain (OpenSpec.ofChange fnSurfaceKindSpec)) fnSurfaceKindCard

/-- THE TIED CARD OF 'laws.FnRank'. -/
def fnRankCard : Claim7 := { stood := { row := fnRankRow, standIns := [], harness := (true, "c96d2c7e3e019f55029ba45980bcb54dc943a4dda7263ba1ef787f06217653ca"), looks := true }, kinds := [], alts := [], laidByText := true, laidKinds := [.handle], laidTests := true, laidLooks := .later }
def FnRankCardSaid : Prop := Claim7.holds Tryd.pinned (.plain (OpenSpec.ofChange fnRankSpec)) fnRankCard

/-- THE TIED CARD OF 'laws.FnSquare'. -/
def fnSquareCard : Claim7 := { stood := { row := fnSquareRow, standIns := [], harness := (true, "c96d2c7e3e019f55029ba45980bcb54dc943a4dda7263ba1ef787f06217653ca"), looks := true }, kinds := [], alts := [], laidByText := true, laidKinds := [.handle], laidTests := true, laidLooks := .later }
def FnSquareCardSaid : Prop := Claim7.holds Tryd.pinned (.plain (OpenSpec.ofChange fnSquareSpec)) fnSquareCard

/-- THE TIED CARD OF 'laws.FnTable'. -/
def fnTableCard : Claim7 := { stood := { row := fnTableRow, standIns := [], harness := (true, "c96d2c7e3e019f55029ba45980bcb54dc943a4dda7263ba1ef787f06217653ca"), looks := true }, kinds := [], alts := [], laidByText := true, laidKinds := [.handle], laidTests := true, laidLooks := .later }
def FnTableCardSaid : Prop := Claim7.holds Tryd.pinned (.plain (OpenSpec.ofChange fnTableSpec)) fnTableCard

/-- THE TIED CARD OF 'laws.FnSurfaceAmple'. -/
def fnSurfaceAmpleCard : Claim7 := { stood := { row := fnSurfaceAmpleRow, standIns := [], harness := (true, "c96d2c7e3e019f55029ba45980bcb54dc943a4dda7263ba1ef787f06217653ca"), looks := true }, kinds := [], alts := [], laidByText := true, laidKinds := [.handle], laidTests := true, laidLooks := .later }
def FnSurfaceAmpleCardSaid : Prop := Claim7.holds Tryd.pinned (.plain (OpenSpec.ofChange fnSurfaceAmpleSpec)) fnSurfaceAmpleCard

/-- THE SECOND FORM's CARD OF 'laws.FnDivisor'. -/
def fnDivisorUptoCard : Claim7 := { stood := { row := fnDivisorUptoRow, standIns := [], harness := (true, "c96d2c7e3e019f55029ba45980bcb54dc943a4dda7263ba1ef787f06217653ca"), looks := true }, kinds := [], alts := [], laidByText := true, laidKinds := [.handle], laidTests := true, laidLooks := .later }
def FnDivisorUptoCardSaid : Prop := Claim7.holds Tryd.pinned (.plain (OpenSpec.upto fnDivisorSpec)) fnDivisorUptoCard

/-- THE SECOND FORM's CARD OF 'laws.FnDivisorAdd'. -/
def fnDivisorAddUptoCard : Claim7 := { stood := { row := fnDivisorAddUptoRow, standIns := [], harness := (true, "c96d2c7e3e019f55029ba45980bcb54dc943a4dda7263ba1ef787f06217653ca"), looks := true }, kinds := [], alts := [], laidByText := true, laidKinds := [.handle], laidTests := true, laidLooks := .later }
def FnDivisorAddUptoCardSaid : Prop := Claim7.holds Tryd.pinned (.plain (OpenSpec.upto fnDivisorAddSpec)) fnDivisorAddUptoCard

/-- THE SECOND FORM's CARD OF 'laws.FnDivisorTimes'. -/
def fnDivisorTimesUptoCard : Claim7 := { stood := { row := fnDivisorTimesUptoRow, standIns := [], harness := (true, "c96d2c7e3e019f55029ba45980bcb54dc943a4dda7263ba1ef787f06217653ca"), looks := true }, kinds := [], alts := [], laidByText := true, laidKinds := [.handle], laidTests := true, laidLooks := .later }
def FnDivisorTimesUptoCardSaid : Prop := Claim7.holds Tryd.pinned (.plain (OpenSpec.upto fnDivisorTimesSpec)) fnDivisorTimesUptoCard

/-- THE SECOND FORM's CARD OF 'laws.FnNef'. -/
def fnNefUptoCard : Claim7 := { stood := { row := fnNefUptoRow, standIns := [], harness := (true, "c96d2c7e3e019f55029ba45980bcb54dc943a4dda7263ba1ef787f06217653ca"), looks := true }, kinds := [], alts := [], laidByText := true, laidKinds := [.handle], laidTests := true, laidLooks := .later }
def FnNefUptoCardSaid : Prop := Claim7.holds Tryd.pinned (.plain (OpenSpec.upto fnNefSpec)) fnNefUptoCard

/-- THE SECOND FORM's CARD OF 'laws.FnAmple'. -/
def fnAmpleUptoCard : Claim7 := { stood := { row := fnAmpleUptoRow, standIns := [], harness := (true, "c96d2c7e3e019f55029ba45980bcb54dc943a4dda7263ba1ef787f06217653ca"), looks := true }, kinds := [], alts := [], laidByText := true, laidKinds := [.handle], laidTests := true, laidLooks := .later }
def FnAmpleUptoCardSaid : Prop := Claim7.holds Tryd.pinned (.plain (OpenSpec.upto fnAmpleSpec)) fnAmpleUptoCard

/-- THE SECOND FORM's CARD OF 'laws.FnCanonical'. -/
def fnCanonicalUptoCard : Claim7 := { stood := { row := fnCanonicalUptoRow, standIns := [], harness := (true, "c96d2c7e3e019f55029ba45980bcb54dc943a4dda7263ba1ef787f06217653ca"), looks := true }, kinds := [], alts := [], laidByText := true, laidKinds := [.handle], laidTests := true, laidLooks := .later }
def FnCanonicalUptoCardSaid : Prop := Claim7.holds Tryd.pinned (.plain (OpenSpec.upto fnCanonicalSpec)) fnCanonicalUptoCard

/-- THE SECOND FORM's CARD OF 'laws.FnDegrees'. -/
def fnDegreesUptoCard : Claim7 := { stood := { row := fnDegreesUptoRow, standIns := [], harness := (true, "c96d2c7e3e019f55029ba45980bcb54dc943a4dda7263ba1ef787f06217653ca"), looks := true }, kinds := [], alts := [], laidByText := true, laidKinds := [.handle], laidTests := true, laidLooks := .later }
def FnDegreesUptoCardSaid : Prop := Claim7.holds Tryd.pinned (.plain (OpenSpec.upto fnDegreesSpec)) fnDegreesUptoCard

/-- THE SECOND FORM's CARD OF 'laws.FnSection'. -/
def fnSectionUptoCard : Claim7 := { stood := { row := fnSectionUptoRow, standIns := [], harness := (true, "c96d2c7e3e019f55029ba45980bcb54dc943a4dda7263ba1ef787f06217653ca"), looks := true }, kinds := [], alts := [], laidByText := true, laidKinds := [.handle], laidTests := true, laidLooks := .later }
def FnSectionUptoCardSaid : Prop := Claim7.holds Tryd.pinned (.plain (OpenSpec.upto fnSectionSpec)) fnSectionUptoCard

/-- THE SECOND FORM's CARD OF 'laws.FnBlow'. -/
def fnBlowUptoCard : Claim7 := { stood := { row := fnBlowUptoRow, standIns := [], harness := (true, "c96d2c7e3e019f55029ba45980bcb54dc943a4dda7263ba1ef787f06217653ca"), looks := true }, kinds := [], alts := [], laidByText := true, laidKinds := [.handle], laidTests := true, laidLooks := .later }
def FnBlowUptoCardSaid : Prop := Claim7.holds Tryd.pinned (.plain (OpenSpec.upto fnBlowSpec)) fnBlowUptoCard

/-- THE SECOND FORM's CARD OF 'laws.FnNumbersFan'. -/
def fnNumbersFanUptoCard : Claim7 := { stood := { row := fnNumbersFanUptoRow, standIns := [], harness := (true, "c96d2c7e3e019f55029ba45980bcb54dc943a4dda7263ba1ef787f06217653ca"), looks := true }, kinds := [], alts := [], laidByText := true, laidKinds := [.handle], laidTests := true, laidLooks := .later }
def FnNumbersFanUptoCardSaid : Prop := Claim7.holds Tryd.pinned (.plain (OpenSpec.upto fnNumbersFanSpec)) fnNumbersFanUptoCard

/-- THE SECOND FORM's CARD OF 'laws.FnNumbersSum'. -/
def fnNumbersSumUptoCard : Claim7 := { stood := { row := fnNumbersSumUptoRow, standIns := [], harness := (true, "c96d2c7e3e019f55029ba45980bcb54dc943a4dda7263ba1ef787f06217653ca"), looks := true }, kinds := [], alts := [], laidByText := true, laidKinds := [.handle], laidTests := true, laidLooks := .later }
def FnNumbersSumUptoCardSaid : Prop := Claim7.holds Tryd.pinned (.plain (OpenSpec.upto fnNumbersSumSpec)) fnNumbersSumUptoCard

/-- THE SECOND FORM's CARD OF 'laws.FnSurfaceKind'. -/
def fnSurfaceKindUptoCard : Claim7 := { stood := { row := fnSurfaceKindUptoRow, standIns := [], harness := (true, "c96d2c7e3e019f55029ba45980bcb54dc943a4dda7263ba1ef787f06217653ca"), looks := true }, kinds := [], alts := [], laidByText := true, laidKinds := [.handle], laidTests := true, laidLooks := .later }
def FnSurfaceKindUptoCardSaid : Prop := Claim7.holds Tryd.pinned (.plain (OpenSpec.upto fnSurfaceKindSpec)) fnSurfaceKindUptoCard

/-- THE SECOND FORM's CARD OF 'laws.FnRank'. -/
def fnRankUptoCard : Claim7 := { stood := { row := fnRankUptoRow, standIns := [], harness := (true, "c96d2c7e3e019f55029ba45980bcb54dc943a4dda7263ba1ef787f06217653ca"), looks := true }, kinds := [], alts := [], laidByText := true, laidKinds := [.handle], laidTests := true, laidLooks := .later }
def FnRankUptoCardSaid : Prop := Claim7.holds Tryd.pinned (.plain (OpenSpec.upto fnRankSpec)) fnRankUptoCard

/-- THE SECOND FORM's CARD OF 'laws.FnSquare'. -/
def fnSquareUptoCard : Claim7 := { stood := { row := fnSquareUptoRow, standIns := [], harness := (true, "c96d2c7e3e019f55029ba45980bcb54dc943a4dda7263ba1ef787f06217653ca"), looks := true }, kinds := [], alts := [], laidByText := true, laidKinds := [.handle], laidTests := true, laidLooks := .later }
def FnSquareUptoCardSaid : Prop := Claim7.holds Tryd.pinned (.plain (OpenSpec.upto fnSquareSpec)) fnSquareUptoCard

/-- THE SECOND FORM's CARD OF 'laws.FnTable'. -/
def fnTableUptoCard : Claim7 := { stood := { row := fnTableUptoRow, standIns := [], harness := (true, "c96d2c7e3e019f55029ba45980bcb54dc943a4dda7263ba1ef787f06217653ca"), looks := true }, kinds := [], alts := [], laidByText := true, laidKinds := [.handle], laidTests := true, laidLooks := .later }
def FnTableUptoCardSaid : Prop := Claim7.holds Tryd.pinned (.plain (OpenSpec.upto fnTableSpec)) fnTableUptoCard

/-- THE SECOND FORM's CARD OF 'laws.FnSurfaceAmple'. -/
def fnSurfaceAmpleUptoCard : Claim7 := { stood := { row := fnSurfaceAmpleUptoRow, standIns := [], harness := (true, "c96d2c7e3e019f55029ba45980bcb54dc943a4dda7263ba1ef787f06217653ca"), looks := true }, kinds := [], alts := [], laidByText := true, laidKinds := [.handle], laidTests := true, laidLooks := .later }
def FnSurfaceAmpleUptoCardSaid : Prop := Claim7.holds Tryd.pinned (.plain (OpenSpec.upto fnSurfaceAmpleSpec)) fnSurfaceAmpleUptoCard
end Rows
end Go.Proofs.YtohojjoediibhaaDoor
