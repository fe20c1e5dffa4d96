/-
  DERIVED. GIVEN WITH THE SEED: THE CARDS: each row of YtdkdpfpfefpphaaDoorRows.lean that lists a variable, with what it lists TIED to the program's text (the seventh form; the later family's looks); each row that meets fmt, with fmt's text TOLD by the authors' own Lean function (tested against real Go, not proved from fmt's source: count such statements apart). THE CARD IS WHAT COUNTS. Prove the row's statement (the work); the ties are given (YtdkdpfpfefpphaaDoorTie.lean); close each card by the builder's one call (the guide's Derived/Test/ToyasCard.lean, 'card_holds'). Laid BY PROGRAM, IN A SANDBOX (cutbox-door.mjs). By AI agents, Wed Nov 11 2026. No macro, syntax, notation, axiom, sorry.
-/
import Derived.Test.YtdkdpfpfefpphaaDoorRows
import GoSem.ClaimSeven
namespace Go.Proofs.YtdkdpfpfefpphaaDoor
namespace Rows

/-- THE TIED CARD OF 'laws.FnAhead'. -/
def fnAheadCard : Claim7 := { stood := { row := fnAheadRow, standIns := [], harness := (true, "fb9f8272dadb837c3c961a11afd955d9dac950a9338beeee28e4bb6f6db9d1d9"), looks := true }, kinds := [], alts := [], laidByText := true, laidKinds := [.handle], laidTests := true, laidLooks := .later }
def FnAheadCardSaid : Prop := Claim7.holds Tryd.pinned (.plain (OpenSpec.ofChange fnAheadSpec)) fnAheadCard

/-- THE TIED CARD OF 'laws.FnMatTurned'. -/
def fnMatTurnedCard : Claim7 := { stood := { row := fnMatTurnedRow, standIns := [], harness := (true, "fb9f8272dadb837c3c961a11afd955d9dac950a9338beeee28e4bb6f6db9d1d9"), looks := true }, kinds := [], alts := [], laidByText := true, laidKinds := [.handle], laidTests := true, laidLooks := .later }
def FnMatTurnedCardSaid : Prop := Claim7.holds Tryd.pinned (.plain (OpenSpec.ofChange fnMatTurnedSpec)) fnMatTurnedCard

/-- THE TIED CARD OF 'laws.FnExactVecIn'. -/
def fnExactVecInCard : Claim7 := { stood := { row := fnExactVecInRow, standIns := [], harness := (true, "fb9f8272dadb837c3c961a11afd955d9dac950a9338beeee28e4bb6f6db9d1d9"), looks := true }, kinds := [], alts := [], laidByText := true, laidKinds := [.handle], laidTests := true, laidLooks := .later }
def FnExactVecInCardSaid : Prop := Claim7.holds Tryd.pinned (.plain (OpenSpec.ofChange fnExactVecInSpec)) fnExactVecInCard

/-- THE TIED CARD OF 'laws.FnExactVecAdd'. -/
def fnExactVecAddCard : Claim7 := { stood := { row := fnExactVecAddRow, standIns := [], harness := (true, "fb9f8272dadb837c3c961a11afd955d9dac950a9338beeee28e4bb6f6db9d1d9"), looks := true }, kinds := [], alts := [], laidByText := true, laidKinds := [.handle], laidTests := true, laidLooks := .later }
def FnExactVecAddCardSaid : Prop := Claim7.holds Tryd.pinned (.plain (OpenSpec.ofChange fnExactVecAddSpec)) fnExactVecAddCard

/-- THE TIED CARD OF 'laws.FnExactVecTimes'. -/
def fnExactVecTimesCard : Claim7 := { stood := { row := fnExactVecTimesRow, standIns := [], harness := (true, "fb9f8272dadb837c3c961a11afd955d9dac950a9338beeee28e4bb6f6db9d1d9"), looks := true }, kinds := [], alts := [], laidByText := true, laidKinds := [.handle], laidTests := true, laidLooks := .later }
def FnExactVecTimesCardSaid : Prop := Claim7.holds Tryd.pinned (.plain (OpenSpec.ofChange fnExactVecTimesSpec)) fnExactVecTimesCard

/-- THE TIED CARD OF 'laws.FnExactVecDet'. -/
def fnExactVecDetCard : Claim7 := { stood := { row := fnExactVecDetRow, standIns := [], harness := (true, "fb9f8272dadb837c3c961a11afd955d9dac950a9338beeee28e4bb6f6db9d1d9"), looks := true }, kinds := [], alts := [], laidByText := true, laidKinds := [.handle], laidTests := true, laidLooks := .later }
def FnExactVecDetCardSaid : Prop := Claim7.holds Tryd.pinned (.plain (OpenSpec.ofChange fnExactVecDetSpec)) fnExactVecDetCard

/-- THE TIED CARD OF 'laws.FnExactVecProduct'. -/
def fnExactVecProductCard : Claim7 := { stood := { row := fnExactVecProductRow, standIns := [], harness := (true, "fb9f8272dadb837c3c961a11afd955d9dac950a9338beeee28e4bb6f6db9d1d9"), looks := true }, kinds := [], alts := [], laidByText := true, laidKinds := [.handle], laidTests := true, laidLooks := .later }
def FnExactVecProductCardSaid : Prop := Claim7.holds Tryd.pinned (.plain (OpenSpec.ofChange fnExactVecProductSpec)) fnExactVecProductCard

/-- THE TIED CARD OF 'laws.FnExactVecPrimitive'. -/
def fnExactVecPrimitiveCard : Claim7 := { stood := { row := fnExactVecPrimitiveRow, standIns := [], harness := (true, "fb9f8272dadb837c3c961a11afd955d9dac950a9338beeee28e4bb6f6db9d1d9"), looks := true }, kinds := [], alts := [], laidByText := true, laidKinds := [.handle], laidTests := true, laidLooks := .later }
def FnExactVecPrimitiveCardSaid : Prop := Claim7.holds Tryd.pinned (.plain (OpenSpec.ofChange fnExactVecPrimitiveSpec)) fnExactVecPrimitiveCard

/-- THE TIED CARD OF 'laws.FnExactVecTurn'. -/
def fnExactVecTurnCard : Claim7 := { stood := { row := fnExactVecTurnRow, standIns := [], harness := (true, "fb9f8272dadb837c3c961a11afd955d9dac950a9338beeee28e4bb6f6db9d1d9"), looks := true }, kinds := [], alts := [], laidByText := true, laidKinds := [.handle], laidTests := true, laidLooks := .later }
def FnExactVecTurnCardSaid : Prop := Claim7.holds Tryd.pinned (.plain (OpenSpec.ofChange fnExactVecTurnSpec)) fnExactVecTurnCard

/-- THE TIED CARD OF 'laws.FnExactVecAhead'. -/
def fnExactVecAheadCard : Claim7 := { stood := { row := fnExactVecAheadRow, standIns := [], harness := (true, "fb9f8272dadb837c3c961a11afd955d9dac950a9338beeee28e4bb6f6db9d1d9"), looks := true }, kinds := [], alts := [], laidByText := true, laidKinds := [.handle], laidTests := true, laidLooks := .later }
def FnExactVecAheadCardSaid : Prop := Claim7.holds Tryd.pinned (.plain (OpenSpec.ofChange fnExactVecAheadSpec)) fnExactVecAheadCard

/-- THE TIED CARD OF 'laws.FnExactMatIn'. -/
def fnExactMatInCard : Claim7 := { stood := { row := fnExactMatInRow, standIns := [], harness := (true, "fb9f8272dadb837c3c961a11afd955d9dac950a9338beeee28e4bb6f6db9d1d9"), looks := true }, kinds := [], alts := [], laidByText := true, laidKinds := [.handle], laidTests := true, laidLooks := .later }
def FnExactMatInCardSaid : Prop := Claim7.holds Tryd.pinned (.plain (OpenSpec.ofChange fnExactMatInSpec)) fnExactMatInCard

/-- THE TIED CARD OF 'laws.FnExactMatMove'. -/
def fnExactMatMoveCard : Claim7 := { stood := { row := fnExactMatMoveRow, standIns := [], harness := (true, "fb9f8272dadb837c3c961a11afd955d9dac950a9338beeee28e4bb6f6db9d1d9"), looks := true }, kinds := [], alts := [], laidByText := true, laidKinds := [.handle], laidTests := true, laidLooks := .later }
def FnExactMatMoveCardSaid : Prop := Claim7.holds Tryd.pinned (.plain (OpenSpec.ofChange fnExactMatMoveSpec)) fnExactMatMoveCard

/-- THE SECOND FORM's CARD OF 'laws.FnAhead'. -/
def fnAheadUptoCard : Claim7 := { stood := { row := fnAheadUptoRow, standIns := [], harness := (true, "fb9f8272dadb837c3c961a11afd955d9dac950a9338beeee28e4bb6f6db9d1d9"), looks := true }, kinds := [], alts := [], laidByText := true, laidKinds := [.handle], laidTests := true, laidLooks := .later }
def FnAheadUptoCardSaid : Prop := Claim7.holds Tryd.pinned (.plain (OpenSpec.upto fnAheadSpec)) fnAheadUptoCard

/-- THE SECOND FORM's CARD OF 'laws.FnMatTurned'. -/
def fnMatTurnedUptoCard : Claim7 := { stood := { row := fnMatTurnedUptoRow, standIns := [], harness := (true, "fb9f8272dadb837c3c961a11afd955d9dac950a9338beeee28e4bb6f6db9d1d9"), looks := true }, kinds := [], alts := [], laidByText := true, laidKinds := [.handle], laidTests := true, laidLooks := .later }
def FnMatTurnedUptoCardSaid : Prop := Claim7.holds Tryd.pinned (.plain (OpenSpec.upto fnMatTurnedSpec)) fnMatTurnedUptoCard

/-- THE SECOND FORM's CARD OF 'laws.FnExactVecIn'. -/
def fnExactVecInUptoCard : Claim7 := { stood := { row := fnExactVecInUptoRow, standIns := [], harness := (true, "fb9f8272dadb837c3c961a11afd955d9dac950a9338beeee28e4bb6f6db9d1d9"), looks := true }, kinds := [], alts := [], laidByText := true, laidKinds := [.handle], laidTests := true, laidLooks := .later }
def FnExactVecInUptoCardSaid : Prop := Claim7.holds Tryd.pinned (.plain (OpenSpec.upto fnExactVecInSpec)) fnExactVecInUptoCard

/-- THE SECOND FORM's CARD OF 'laws.FnExactVecAdd'. -/
def fnExactVecAddUptoCard : Claim7 := { stood := { row := fnExactVecAddUptoRow, standIns := [], harness := (true, "fb9f8272dadb837c3c961a11afd955d9dac950a9338beeee28e4bb6f6db9d1d9"), looks := true }, kinds := [], alts := [], laidByText := true, laidKinds := [.handle], laidTests := true, laidLooks := .later }
def FnExactVecAddUptoCardSaid : Prop := Claim7.holds Tryd.pinned (.plain (OpenSpec.upto fnExactVecAddSpec)) fnExactVecAddUptoCard

/-- THE SECOND FORM's CARD OF 'laws.FnExactVecTimes'. -/
def fnExactVecTimesUptoCard : Claim7 := { stood := { row := fnExactVecTimesUptoRow, standIns := [], harness := (true, "fb9f8272dadb837c3c961a11afd955d9dac950a9338beeee28e4bb6f6db9d1d9"), looks := true }, kinds := [], alts := [], laidByText := true, laidKinds := [.handle], laidTests := true, laidLooks := .later }
def FnExactVecTimesUptoCardSaid : Prop := Claim7.holds Tryd.pinned (.plain (OpenSpec.upto fnExactVecTimesSpec)) fnExactVecTimesUptoCard

/-- THE SECOND FORM's CARD OF 'laws.FnExactVecDet'. -/
def fnExactVecDetUptoCard : Claim7 := { stood := { row := fnExactVecDetUptoRow, standIns := [], harness := (true, "fb9f8272dadb837c3c961a11afd955d9dac950a9338beeee28e4bb6f6db9d1d9"), looks := true }, kinds := [], alts := [], laidByText := true, laidKinds := [.handle], laidTests := true, laidLooks := .later }
def FnExactVecDetUptoCardSaid : Prop := Claim7.holds Tryd.pinned (.plain (OpenSpec.upto fnExactVecDetSpec)) fnExactVecDetUptoCard

/-- THE SECOND FORM's CARD OF 'laws.FnExactVecProduct'. -/
def fnExactVecProductUptoCard : Claim7 := { stood := { row := fnExactVecProductUptoRow, standIns := [], harness := (true, "fb9f8272dadb837c3c961a11afd955d9dac950a9338beeee28e4bb6f6db9d1d9"), looks := true }, kinds := [], alts := [], laidByText := true, laidKinds := [.handle], laidTests := true, laidLooks := .later }
def FnExactVecProductUptoCardSaid : Prop := Claim7.holds Tryd.pinned (.plain (OpenSpec.upto fnExactVecProductSpec)) fnExactVecProductUptoCard

/-- THE SECOND FORM's CARD OF 'laws.FnExactVecPrimitive'. -/
def fnExactVecPrimitiveUptoCard : Claim7 := { stood := { row := fnExactVecPrimitiveUptoRow, standIns := [], harness := (true, "fb9f8272dadb837c3c961a11afd955d9dac950a9338beeee28e4bb6f6db9d1d9"), looks := true }, kinds := [], alts := [], laidByText := true, laidKinds := [.handle], laidTests := true, laidLooks := .later }
def FnExactVecPrimitiveUptoCardSaid : Prop := Claim7.holds Tryd.pinned (.plain (OpenSpec.upto fnExactVecPrimitiveSpec)) fnExactVecPrimitiveUptoCard

/-- THE SECOND FORM's CARD OF 'laws.FnExactVecTurn'. -/
def fnExactVecTurnUptoCard : Claim7 := { stood := { row := fnExactVecTurnUptoRow, standIns := [], harness := (true, "fb9f8272dadb837c3c961a11afd955d9dac950a9338beeee28e4bb6f6db9d1d9"), looks := true }, kinds := [], alts := [], laidByText := true, laidKinds := [.handle], laidTests := true, laidLooks := .later }
def FnExactVecTurnUptoCardSaid : Prop := Claim7.holds Tryd.pinned (.plain (OpenSpec.upto fnExactVecTurnSpec)) fnExactVecTurnUptoCard

/-- THE SECOND FORM's CARD OF 'laws.FnExactVecAhead'. -/
def fnExactVecAheadUptoCard : Claim7 := { stood := { row := fnExactVecAheadUptoRow, standIns := [], harness := (true, "fb9f8272dadb837c3c961a11afd955d9dac950a9338beeee28e4bb6f6db9d1d9"), looks := true }, kinds := [], alts := [], laidByText := true, laidKinds := [.handle], laidTests := true, laidLooks := .later }
def FnExactVecAheadUptoCardSaid : Prop := Claim7.holds Tryd.pinned (.plain (OpenSpec.upto fnExactVecAheadSpec)) fnExactVecAheadUptoCard

/-- THE SECOND FORM's CARD OF 'laws.FnExactMatIn'. -/
def fnExactMatInUptoCard : Claim7 := { stood := { row := fnExactMatInUptoRow, standIns := [], harness := (true, "fb9f8272dadb837c3c961a11afd955d9dac950a9338beeee28e4bb6f6db9d1d9"), looks := true }, kinds := [], alts := [], laidByText := true, laidKinds := [.handle], laidTests := true, laidLooks := .later }
def FnExactMatInUptoCardSaid : Prop := Claim7.holds Tryd.pinned (.plain (OpenSpec.upto fnExactMatInSpec)) fnExactMatInUptoCard

/-- THE SECOND FORM's CARD OF 'laws.FnExactMatMove'. -/
def fnExactMatMoveUptoCard : Claim7 := { stood := { row := fnExactMatMoveUptoRow, standIns := [], harness := (true, "fb9f8272dadb837c3c961a11afd955d9dac950a9338beeee28e4bb6f6db9d1d9"), looks := true }, kinds := [], alts := [], laidByText := true, laidKinds := [.handle], laidTests := true, laidLooks := .later }
def FnExactMatMoveUptoCardSaid : Prop := Claim7.holds Tryd.pinned (.plain (OpenSpec.upto fnExactMatMoveSpec)) fnExactMatMoveUptoCard
end Rows
end Go.Proofs.YtdkdpfpfefpphaaDoor
