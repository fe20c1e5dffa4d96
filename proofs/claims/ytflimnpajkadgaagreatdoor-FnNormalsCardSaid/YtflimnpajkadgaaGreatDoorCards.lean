/-
  DERIVED. GIVEN WITH THE SEED: THE CARDS: each row of YtflimnpajkadgaaGreatDoorRows.lean that lists a variable, with what it lists TIED to the program's text (the seventh form; the later family's looks); each row that meets fmt, with fmt's text TOLD by the authors' own Lean function (tested against real Go, not proved from fmt's source: count such statements apart). THE CARD IS WHAT COUNTS. Prove the row's statement (the work); the ties are given (YtflimnpajkadgaaGreatDoorTie.lean); close each card by the builder's one call (the guide's Derived/Test/ToyasCard.lean, 'card_holds'). Laid BY PROGRAM, IN A SANDBOX (cutbox-door.mjs). By AI agents, Wed Nov 11 2026. No macro, syntax, notation, axiom, sorry.
-/
import Derived.Test.YtflimnpajkadgaaGreatDoorRows
import GoSem.ClaimSeven
namespace Go.Proofs.YtflimnpajkadgaaGreatDoor
namespace Rows

/-- THE TIED CARD OF 'laws.FnInner'. -/
def fnInnerCard : Claim7 := { stood := { row := fnInnerRow, standIns := [], harness := (true, "0c20c43b5e5ce97a15888f6247f9e79e30e3627788f2e8b77dbad71d601fe924"), looks := true }, kinds := [], alts := [], laidByText := true, laidKinds := [.handle], laidTests := true, laidLooks := .later }
def FnInnerCardSaid : Prop := Claim7.holds Tryz.pinned (.plain (OpenSpec.ofChange fnInnerSpec)) fnInnerCard

/-- THE TIED CARD OF 'laws.FnCount'. -/
def fnCountCard : Claim7 := { stood := { row := fnCountRow, standIns := [], harness := (true, "0c20c43b5e5ce97a15888f6247f9e79e30e3627788f2e8b77dbad71d601fe924"), looks := true }, kinds := [], alts := [], laidByText := true, laidKinds := [.handle], laidTests := true, laidLooks := .later }
def FnCountCardSaid : Prop := Claim7.holds Tryz.pinned (.plain (OpenSpec.ofChange fnCountSpec)) fnCountCard

/-- THE TIED CARD OF 'laws.FnNormals'. -/
def fnNormalsCard : Claim7 := { stood := { row := fnNormalsRow, standIns := [], harness := (true, "0c20c43b5e5ce97a15888f6247f9e79e30e3627788f2e8b77dbad71d601fe924"), looks := true }, kinds := [], alts := [], laidByText := true, laidKinds := [.handle], laidTests := true, laidLooks := .later }
def FnNormalsCardSaid : Prop := Claim7.holds Tryz.pinned (.plain (OpenSpec.ofChange fnNormalsSpec)) fnNormalsCard

/-- THE SECOND FORM's CARD OF 'laws.FnInner'. -/
def fnInnerUptoCard : Claim7 := { stood := { row := fnInnerUptoRow, standIns := [], harness := (true, "0c20c43b5e5ce97a15888f6247f9e79e30e3627788f2e8b77dbad71d601fe924"), looks := true }, kinds := [], alts := [], laidByText := true, laidKinds := [.handle], laidTests := true, laidLooks := .later }
def FnInnerUptoCardSaid : Prop := Claim7.holds Tryz.pinned (.plain (OpenSpec.upto fnInnerSpec)) fnInnerUptoCard

/-- THE SECOND FORM's CARD OF 'laws.FnCount'. -/
def fnCountUptoCard : Claim7 := { stood := { row := fnCountUptoRow, standIns := [], harness := (true, "0c20c43b5e5ce97a15888f6247f9e79e30e3627788f2e8b77dbad71d601fe924"), looks := true }, kinds := [], alts := [], laidByText := true, laidKinds := [.handle], laidTests := true, laidLooks := .later }
def FnCountUptoCardSaid : Prop := Claim7.holds Tryz.pinned (.plain (OpenSpec.upto fnCountSpec)) fnCountUptoCard

/-- THE SECOND FORM's CARD OF 'laws.FnNormals'. -/
def fnNormalsUptoCard : Claim7 := { stood := { row := fnNormalsUptoRow, standIns := [], harness := (true, "0c20c43b5e5ce97a15888f6247f9e79e30e3627788f2e8b77dbad71d601fe924"), looks := true }, kinds := [], alts := [], laidByText := true, laidKinds := [.handle], laidTests := true, laidLooks := .later }
def FnNormalsUptoCardSaid : Prop := Claim7.holds Tryz.pinned (.plain (OpenSpec.upto fnNormalsSpec)) fnNormalsUptoCard
end Rows
end Go.Proofs.YtflimnpajkadgaaGreatDoor
