/-
  DERIVED. GIVEN WITH THE SEED: THE CARDS: each row of YtohojjoediibhaaGreatDoorRows.lean that lists a variable, with what it lists TIED to the program's text (the seventh form; the later family's looks); each row that meets fmt, with fmt's text TOLD by the authors' own Lean function (tested against real Go, not proved from fmt's source: count such statements apart). THE CARD IS WHAT COUNTS. Prove the row's statement (the work); the ties are given (YtohojjoediibhaaGreatDoorTie.lean); close each card by the builder's one call (the guide's Derived/Test/ToyasCard.lean, 'card_holds'). Laid BY PROGRAM, IN A SANDBOX (cutbox-door.mjs). By AI agents, Wed Nov 11 2026. No macro, syntax, notation, axiom, sorry.
-/
import Derived.Test.YtohojjoediibhaaGreatDoorRows
import GoSem.ClaimSeven
namespace Go.Proofs.YtohojjoediibhaaGreatDoor
namespace Rows

/-- THE TIED CARD OF 'laws.FnTrivial'. -/
def fnTrivialCard : Claim7 := { stood := { row := fnTrivialRow, standIns := [], harness := (true, "99a80a0905253e348e48a631be6770a0da8fed5c14b1866756a1be67e59993fc"), looks := true }, kinds := [], alts := [], laidByText := true, laidKinds := [.handle], laidTests := true, laidLooks := .later }
def FnTrivialCardSaid : Prop := Claim7.holds Tryz.pinned (.plain (OpenSpec.ofChange fnTrivialSpec)) fnTrivialCard

/-- THE TIED CARD OF 'laws.FnDivisorProduct'. -/
def fnDivisorProductCard : Claim7 := { stood := { row := fnDivisorProductRow, standIns := [], harness := (true, "99a80a0905253e348e48a631be6770a0da8fed5c14b1866756a1be67e59993fc"), looks := true }, kinds := [], alts := [], laidByText := true, laidKinds := [.handle], laidTests := true, laidLooks := .later }
def FnDivisorProductCardSaid : Prop := Claim7.holds Tryz.pinned (.plain (OpenSpec.ofChange fnDivisorProductSpec)) fnDivisorProductCard

/-- THE TIED CARD OF 'laws.FnEquivalent'. -/
def fnEquivalentCard : Claim7 := { stood := { row := fnEquivalentRow, standIns := [], harness := (true, "99a80a0905253e348e48a631be6770a0da8fed5c14b1866756a1be67e59993fc"), looks := true }, kinds := [], alts := [], laidByText := true, laidKinds := [.handle], laidTests := true, laidLooks := .later }
def FnEquivalentCardSaid : Prop := Claim7.holds Tryz.pinned (.plain (OpenSpec.ofChange fnEquivalentSpec)) fnEquivalentCard

/-- THE TIED CARD OF 'laws.FnSameDegrees'. -/
def fnSameDegreesCard : Claim7 := { stood := { row := fnSameDegreesRow, standIns := [], harness := (true, "99a80a0905253e348e48a631be6770a0da8fed5c14b1866756a1be67e59993fc"), looks := true }, kinds := [], alts := [], laidByText := true, laidKinds := [.handle], laidTests := true, laidLooks := .later }
def FnSameDegreesCardSaid : Prop := Claim7.holds Tryz.pinned (.plain (OpenSpec.ofChange fnSameDegreesSpec)) fnSameDegreesCard

/-- THE TIED CARD OF 'laws.FnPlain'. -/
def fnPlainCard : Claim7 := { stood := { row := fnPlainRow, standIns := [], harness := (true, "99a80a0905253e348e48a631be6770a0da8fed5c14b1866756a1be67e59993fc"), looks := true }, kinds := [], alts := [], laidByText := true, laidKinds := [.handle], laidTests := true, laidLooks := .later }
def FnPlainCardSaid : Prop := Claim7.holds Tryz.pinned (.plain (OpenSpec.ofChange fnPlainSpec)) fnPlainCard

/-- THE TIED CARD OF 'laws.FnEuler'. -/
def fnEulerCard : Claim7 := { stood := { row := fnEulerRow, standIns := [], harness := (true, "99a80a0905253e348e48a631be6770a0da8fed5c14b1866756a1be67e59993fc"), looks := true }, kinds := [], alts := [], laidByText := true, laidKinds := [.handle], laidTests := true, laidLooks := .later }
def FnEulerCardSaid : Prop := Claim7.holds Tryz.pinned (.plain (OpenSpec.ofChange fnEulerSpec)) fnEulerCard

/-- THE TIED CARD OF 'laws.FnGenus'. -/
def fnGenusCard : Claim7 := { stood := { row := fnGenusRow, standIns := [], harness := (true, "99a80a0905253e348e48a631be6770a0da8fed5c14b1866756a1be67e59993fc"), looks := true }, kinds := [], alts := [], laidByText := true, laidKinds := [.handle], laidTests := true, laidLooks := .later }
def FnGenusCardSaid : Prop := Claim7.holds Tryz.pinned (.plain (OpenSpec.ofChange fnGenusSpec)) fnGenusCard

/-- THE TIED CARD OF 'laws.FnCorners'. -/
def fnCornersCard : Claim7 := { stood := { row := fnCornersRow, standIns := [], harness := (true, "99a80a0905253e348e48a631be6770a0da8fed5c14b1866756a1be67e59993fc"), looks := true }, kinds := [], alts := [], laidByText := true, laidKinds := [.handle], laidTests := true, laidLooks := .later }
def FnCornersCardSaid : Prop := Claim7.holds Tryz.pinned (.plain (OpenSpec.ofChange fnCornersSpec)) fnCornersCard

/-- THE TIED CARD OF 'laws.FnArea'. -/
def fnAreaCard : Claim7 := { stood := { row := fnAreaRow, standIns := [], harness := (true, "99a80a0905253e348e48a631be6770a0da8fed5c14b1866756a1be67e59993fc"), looks := true }, kinds := [], alts := [], laidByText := true, laidKinds := [.handle], laidTests := true, laidLooks := .later }
def FnAreaCardSaid : Prop := Claim7.holds Tryz.pinned (.plain (OpenSpec.ofChange fnAreaSpec)) fnAreaCard

/-- THE TIED CARD OF 'laws.FnFanKind'. -/
def fnFanKindCard : Claim7 := { stood := { row := fnFanKindRow, standIns := [], harness := (true, "99a80a0905253e348e48a631be6770a0da8fed5c14b1866756a1be67e59993fc"), looks := true }, kinds := [], alts := [], laidByText := true, laidKinds := [.handle], laidTests := true, laidLooks := .later }
def FnFanKindCardSaid : Prop := Claim7.holds Tryz.pinned (.plain (OpenSpec.ofChange fnFanKindSpec)) fnFanKindCard

/-- THE SECOND FORM's CARD OF 'laws.FnTrivial'. -/
def fnTrivialUptoCard : Claim7 := { stood := { row := fnTrivialUptoRow, standIns := [], harness := (true, "99a80a0905253e348e48a631be6770a0da8fed5c14b1866756a1be67e59993fc"), looks := true }, kinds := [], alts := [], laidByText := true, laidKinds := [.handle], laidTests := true, laidLooks := .later }
def FnTrivialUptoCardSaid : Prop := Claim7.holds Tryz.pinned (.plain (OpenSpec.upto fnTrivialSpec)) fnTrivialUptoCard

/-- THE SECOND FORM's CARD OF 'laws.FnDivisorProduct'. -/
def fnDivisorProductUptoCard : Claim7 := { stood := { row := fnDivisorProductUptoRow, standIns := [], harness := (true, "99a80a0905253e348e48a631be6770a0da8fed5c14b1866756a1be67e59993fc"), looks := true }, kinds := [], alts := [], laidByText := true, laidKinds := [.handle], laidTests := true, laidLooks := .later }
def FnDivisorProductUptoCardSaid : Prop := Claim7.holds Tryz.pinned (.plain (OpenSpec.upto fnDivisorProductSpec)) fnDivisorProductUptoCard

/-- THE SECOND FORM's CARD OF 'laws.FnEquivalent'. -/
def fnEquivalentUptoCard : Claim7 := { stood := { row := fnEquivalentUptoRow, standIns := [], harness := (true, "99a80a0905253e348e48a631be6770a0da8fed5c14b1866756a1be67e59993fc"), looks := true }, kinds := [], alts := [], laidByText := true, laidKinds := [.handle], laidTests := true, laidLooks := .later }
def FnEquivalentUptoCardSaid : Prop := Claim7.holds Tryz.pinned (.plain (OpenSpec.upto fnEquivalentSpec)) fnEquivalentUptoCard

/-- THE SECOND FORM's CARD OF 'laws.FnSameDegrees'. -/
def fnSameDegreesUptoCard : Claim7 := { stood := { row := fnSameDegreesUptoRow, standIns := [], harness := (true, "99a80a0905253e348e48a631be6770a0da8fed5c14b1866756a1be67e59993fc"), looks := true }, kinds := [], alts := [], laidByText := true, laidKinds := [.handle], laidTests := true, laidLooks := .later }
def FnSameDegreesUptoCardSaid : Prop := Claim7.holds Tryz.pinned (.plain (OpenSpec.upto fnSameDegreesSpec)) fnSameDegreesUptoCard

/-- THE SECOND FORM's CARD OF 'laws.FnPlain'. -/
def fnPlainUptoCard : Claim7 := { stood := { row := fnPlainUptoRow, standIns := [], harness := (true, "99a80a0905253e348e48a631be6770a0da8fed5c14b1866756a1be67e59993fc"), looks := true }, kinds := [], alts := [], laidByText := true, laidKinds := [.handle], laidTests := true, laidLooks := .later }
def FnPlainUptoCardSaid : Prop := Claim7.holds Tryz.pinned (.plain (OpenSpec.upto fnPlainSpec)) fnPlainUptoCard

/-- THE SECOND FORM's CARD OF 'laws.FnEuler'. -/
def fnEulerUptoCard : Claim7 := { stood := { row := fnEulerUptoRow, standIns := [], harness := (true, "99a80a0905253e348e48a631be6770a0da8fed5c14b1866756a1be67e59993fc"), looks := true }, kinds := [], alts := [], laidByText := true, laidKinds := [.handle], laidTests := true, laidLooks := .later }
def FnEulerUptoCardSaid : Prop := Claim7.holds Tryz.pinned (.plain (OpenSpec.upto fnEulerSpec)) fnEulerUptoCard

/-- THE SECOND FORM's CARD OF 'laws.FnGenus'. -/
def fnGenusUptoCard : Claim7 := { stood := { row := fnGenusUptoRow, standIns := [], harness := (true, "99a80a0905253e348e48a631be6770a0da8fed5c14b1866756a1be67e59993fc"), looks := true }, kinds := [], alts := [], laidByText := true, laidKinds := [.handle], laidTests := true, laidLooks := .later }
def FnGenusUptoCardSaid : Prop := Claim7.holds Tryz.pinned (.plain (OpenSpec.upto fnGenusSpec)) fnGenusUptoCard

/-- THE SECOND FORM's CARD OF 'laws.FnCorners'. -/
def fnCornersUptoCard : Claim7 := { stood := { row := fnCornersUptoRow, standIns := [], harness := (true, "99a80a0905253e348e48a631be6770a0da8fed5c14b1866756a1be67e59993fc"), looks := true }, kinds := [], alts := [], laidByText := true, laidKinds := [.handle], laidTests := true, laidLooks := .later }
def FnCornersUptoCardSaid : Prop := Claim7.holds Tryz.pinned (.plain (OpenSpec.upto fnCornersSpec)) fnCornersUptoCard

/-- THE SECOND FORM's CARD OF 'laws.FnArea'. -/
def fnAreaUptoCard : Claim7 := { stood := { row := fnAreaUptoRow, standIns := [], harness := (true, "99a80a0905253e348e48a631be6770a0da8fed5c14b1866756a1be67e59993fc"), looks := true }, kinds := [], alts := [], laidByText := true, laidKinds := [.handle], laidTests := true, laidLooks := .later }
def FnAreaUptoCardSaid : Prop := Claim7.holds Tryz.pinned (.plain (OpenSpec.upto fnAreaSpec)) fnAreaUptoCard

/-- THE SECOND FORM's CARD OF 'laws.FnFanKind'. -/
def fnFanKindUptoCard : Claim7 := { stood := { row := fnFanKindUptoRow, standIns := [], harness := (true, "99a80a0905253e348e48a631be6770a0da8fed5c14b1866756a1be67e59993fc"), looks := true }, kinds := [], alts := [], laidByText := true, laidKinds := [.handle], laidTests := true, laidLooks := .later }
def FnFanKindUptoCardSaid : Prop := Claim7.holds Tryz.pinned (.plain (OpenSpec.upto fnFanKindSpec)) fnFanKindUptoCard
end Rows
end Go.Proofs.YtohojjoediibhaaGreatDoor
