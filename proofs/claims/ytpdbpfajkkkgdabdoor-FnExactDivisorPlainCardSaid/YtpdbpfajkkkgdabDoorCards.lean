/-
  DERIVED. GIVEN WITH THE SEED: THE CARDS: each row of YtpdbpfajkkkgdabDoorRows.lean that lists a variable, with what it lists TIED to the program's text (the seventh form; the later family's looks); each row that meets fmt, with fmt's text TOLD by the authors' own Lean function (tested against real Go, not proved from fmt's source: count such statements apart). THE CARD IS WHAT COUNTS. Prove the row's statement (the work); the ties are given (YtpdbpfajkkkgdabDoorTie.lean); close each card by the builder's one call (the guide's Derived/Test/ToyasCard.lean, 'card_holds'). Laid BY PROGRAM, IN A SANDBOX (cutbox-door.mjs). By AI agents, Wed Nov 11 2026. No macro, syntax, notation, axiom, sorry.
-/
import Derived.Test.YtpdbpfajkkkgdabDoorRows
import GoSem.ClaimSeven
namespace Go.Proofs.YtpdbpfajkkkgdabDoor
namespace Rows

/-- THE TIED CARD OF 'laws.FnExactDivisorNef'. -/
def fnExactDivisorNefCard : Claim7 := { stood := { row := fnExactDivisorNefRow, standIns := [], harness := (true, "8de7fab83525f6dd533557e01a573a50631113a14a0df5d4ef3b19d532ca898e"), looks := true }, kinds := [], alts := [], laidByText := true, laidKinds := [.handle], laidTests := true, laidLooks := .later }
def FnExactDivisorNefCardSaid : Prop := Claim7.holds Tryd.pinned (.plain (OpenSpec.ofChange fnExactDivisorNefSpec)) fnExactDivisorNefCard

/-- THE TIED CARD OF 'laws.FnExactDivisorAmple'. -/
def fnExactDivisorAmpleCard : Claim7 := { stood := { row := fnExactDivisorAmpleRow, standIns := [], harness := (true, "8de7fab83525f6dd533557e01a573a50631113a14a0df5d4ef3b19d532ca898e"), looks := true }, kinds := [], alts := [], laidByText := true, laidKinds := [.handle], laidTests := true, laidLooks := .later }
def FnExactDivisorAmpleCardSaid : Prop := Claim7.holds Tryd.pinned (.plain (OpenSpec.ofChange fnExactDivisorAmpleSpec)) fnExactDivisorAmpleCard

/-- THE TIED CARD OF 'laws.FnExactDivisorPlain'. -/
def fnExactDivisorPlainCard : Claim7 := { stood := { row := fnExactDivisorPlainRow, standIns := [], harness := (true, "8de7fab83525f6dd533557e01a573a50631113a14a0df5d4ef3b19d532ca898e"), looks := true }, kinds := [], alts := [], laidByText := true, laidKinds := [.handle], laidTests := true, laidLooks := .later }
def FnExactDivisorPlainCardSaid : Prop := Claim7.holds Tryd.pinned (.plain (OpenSpec.ofChange fnExactDivisorPlainSpec)) fnExactDivisorPlainCard

/-- THE TIED CARD OF 'laws.FnExactDivisorEquivalent'. -/
def fnExactDivisorEquivalentCard : Claim7 := { stood := { row := fnExactDivisorEquivalentRow, standIns := [], harness := (true, "8de7fab83525f6dd533557e01a573a50631113a14a0df5d4ef3b19d532ca898e"), looks := true }, kinds := [], alts := [], laidByText := true, laidKinds := [.handle], laidTests := true, laidLooks := .later }
def FnExactDivisorEquivalentCardSaid : Prop := Claim7.holds Tryd.pinned (.plain (OpenSpec.ofChange fnExactDivisorEquivalentSpec)) fnExactDivisorEquivalentCard

/-- THE TIED CARD OF 'laws.FnExactDivisorEuler'. -/
def fnExactDivisorEulerCard : Claim7 := { stood := { row := fnExactDivisorEulerRow, standIns := [], harness := (true, "8de7fab83525f6dd533557e01a573a50631113a14a0df5d4ef3b19d532ca898e"), looks := true }, kinds := [], alts := [], laidByText := true, laidKinds := [.handle], laidTests := true, laidLooks := .later }
def FnExactDivisorEulerCardSaid : Prop := Claim7.holds Tryd.pinned (.plain (OpenSpec.ofChange fnExactDivisorEulerSpec)) fnExactDivisorEulerCard

/-- THE TIED CARD OF 'laws.FnExactDivisorGenus'. -/
def fnExactDivisorGenusCard : Claim7 := { stood := { row := fnExactDivisorGenusRow, standIns := [], harness := (true, "8de7fab83525f6dd533557e01a573a50631113a14a0df5d4ef3b19d532ca898e"), looks := true }, kinds := [], alts := [], laidByText := true, laidKinds := [.handle], laidTests := true, laidLooks := .later }
def FnExactDivisorGenusCardSaid : Prop := Claim7.holds Tryd.pinned (.plain (OpenSpec.ofChange fnExactDivisorGenusSpec)) fnExactDivisorGenusCard

/-- THE TIED CARD OF 'laws.FnDegrees'. -/
def fnDegreesCard : Claim7 := { stood := { row := fnDegreesRow, standIns := [], harness := (true, "8de7fab83525f6dd533557e01a573a50631113a14a0df5d4ef3b19d532ca898e"), looks := true }, kinds := [], alts := [], laidByText := true, laidKinds := [.handle], laidTests := true, laidLooks := .later }
def FnDegreesCardSaid : Prop := Claim7.holds Tryd.pinned (.plain (OpenSpec.ofChange fnDegreesSpec)) fnDegreesCard

/-- THE SECOND FORM's CARD OF 'laws.FnExactDivisorNef'. -/
def fnExactDivisorNefUptoCard : Claim7 := { stood := { row := fnExactDivisorNefUptoRow, standIns := [], harness := (true, "8de7fab83525f6dd533557e01a573a50631113a14a0df5d4ef3b19d532ca898e"), looks := true }, kinds := [], alts := [], laidByText := true, laidKinds := [.handle], laidTests := true, laidLooks := .later }
def FnExactDivisorNefUptoCardSaid : Prop := Claim7.holds Tryd.pinned (.plain (OpenSpec.upto fnExactDivisorNefSpec)) fnExactDivisorNefUptoCard

/-- THE SECOND FORM's CARD OF 'laws.FnExactDivisorAmple'. -/
def fnExactDivisorAmpleUptoCard : Claim7 := { stood := { row := fnExactDivisorAmpleUptoRow, standIns := [], harness := (true, "8de7fab83525f6dd533557e01a573a50631113a14a0df5d4ef3b19d532ca898e"), looks := true }, kinds := [], alts := [], laidByText := true, laidKinds := [.handle], laidTests := true, laidLooks := .later }
def FnExactDivisorAmpleUptoCardSaid : Prop := Claim7.holds Tryd.pinned (.plain (OpenSpec.upto fnExactDivisorAmpleSpec)) fnExactDivisorAmpleUptoCard

/-- THE SECOND FORM's CARD OF 'laws.FnExactDivisorPlain'. -/
def fnExactDivisorPlainUptoCard : Claim7 := { stood := { row := fnExactDivisorPlainUptoRow, standIns := [], harness := (true, "8de7fab83525f6dd533557e01a573a50631113a14a0df5d4ef3b19d532ca898e"), looks := true }, kinds := [], alts := [], laidByText := true, laidKinds := [.handle], laidTests := true, laidLooks := .later }
def FnExactDivisorPlainUptoCardSaid : Prop := Claim7.holds Tryd.pinned (.plain (OpenSpec.upto fnExactDivisorPlainSpec)) fnExactDivisorPlainUptoCard

/-- THE SECOND FORM's CARD OF 'laws.FnExactDivisorEquivalent'. -/
def fnExactDivisorEquivalentUptoCard : Claim7 := { stood := { row := fnExactDivisorEquivalentUptoRow, standIns := [], harness := (true, "8de7fab83525f6dd533557e01a573a50631113a14a0df5d4ef3b19d532ca898e"), looks := true }, kinds := [], alts := [], laidByText := true, laidKinds := [.handle], laidTests := true, laidLooks := .later }
def FnExactDivisorEquivalentUptoCardSaid : Prop := Claim7.holds Tryd.pinned (.plain (OpenSpec.upto fnExactDivisorEquivalentSpec)) fnExactDivisorEquivalentUptoCard

/-- THE SECOND FORM's CARD OF 'laws.FnExactDivisorEuler'. -/
def fnExactDivisorEulerUptoCard : Claim7 := { stood := { row := fnExactDivisorEulerUptoRow, standIns := [], harness := (true, "8de7fab83525f6dd533557e01a573a50631113a14a0df5d4ef3b19d532ca898e"), looks := true }, kinds := [], alts := [], laidByText := true, laidKinds := [.handle], laidTests := true, laidLooks := .later }
def FnExactDivisorEulerUptoCardSaid : Prop := Claim7.holds Tryd.pinned (.plain (OpenSpec.upto fnExactDivisorEulerSpec)) fnExactDivisorEulerUptoCard

/-- THE SECOND FORM's CARD OF 'laws.FnExactDivisorGenus'. -/
def fnExactDivisorGenusUptoCard : Claim7 := { stood := { row := fnExactDivisorGenusUptoRow, standIns := [], harness := (true, "8de7fab83525f6dd533557e01a573a50631113a14a0df5d4ef3b19d532ca898e"), looks := true }, kinds := [], alts := [], laidByText := true, laidKinds := [.handle], laidTests := true, laidLooks := .later }
def FnExactDivisorGenusUptoCardSaid : Prop := Claim7.holds Tryd.pinned (.plain (OpenSpec.upto fnExactDivisorGenusSpec)) fnExactDivisorGenusUptoCard

/-- THE SECOND FORM's CARD OF 'laws.FnDegrees'. -/
def fnDegreesUptoCard : Claim7 := { stood := { row := fnDegreesUptoRow, standIns := [], harness := (true, "8de7fab83525f6dd533557e01a573a50631113a14a0df5d4ef3b19d532ca898e"), looks := true }, kinds := [], alts := [], laidByText := true, laidKinds := [.handle], laidTests := true, laidLooks := .later }
def FnDegreesUptoCardSaid : Prop := Claim7.holds Tryd.pinned (.plain (OpenSpec.upto fnDegreesSpec)) fnDegreesUptoCard
end Rows
end Go.Proofs.YtpdbpfajkkkgdabDoor
