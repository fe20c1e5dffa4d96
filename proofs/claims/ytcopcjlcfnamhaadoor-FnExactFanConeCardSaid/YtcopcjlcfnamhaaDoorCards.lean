/-
  DERIVED. GIVEN WITH THE SEED: THE CARDS: each row of YtcopcjlcfnamhaaDoorRows.lean that lists a variable, with what it lists TIED to the program's text (the seventh form; the later family's looks); each row that meets fmt, with fmt's text TOLD by the authors' own Lean function (tested against real Go, not proved from fmt's source: count such statements apart). THE CARD IS WHAT COUNTS. Prove the row's statement (the work); the ties are given (YtcopcjlcfnamhaaDoorTie.lean); close each card by the builder's one call (the guide's Derived/Test/ToyasCard.lean, 'card_holds'). Laid BY PROGRAM, IN A SANDBOX (cutbox-door.mjs). By AI agents, Wed Nov 11 2026. No macro, syntax, notation, axiom, sorry.
-/
import Derived.Test.YtcopcjlcfnamhaaDoorRows
import GoSem.ClaimSeven
namespace Go.Proofs.YtcopcjlcfnamhaaDoor
namespace Rows

/-- THE TIED CARD OF 'laws.FnExactFanIn'. -/
def fnExactFanInCard : Claim7 := { stood := { row := fnExactFanInRow, standIns := [], harness := (true, "81269563de2a533da754ef200f95e1338fc02e7e6db57b5c6812b2908e24d4ae"), looks := true }, kinds := [], alts := [], laidByText := true, laidKinds := [.handle], laidTests := true, laidLooks := .later }
def FnExactFanInCardSaid : Prop := Claim7.holds Tryd.pinned (.plain (OpenSpec.ofChange fnExactFanInSpec)) fnExactFanInCard

/-- THE TIED CARD OF 'laws.FnExactFanTidy'. -/
def fnExactFanTidyCard : Claim7 := { stood := { row := fnExactFanTidyRow, standIns := [], harness := (true, "81269563de2a533da754ef200f95e1338fc02e7e6db57b5c6812b2908e24d4ae"), looks := true }, kinds := [], alts := [], laidByText := true, laidKinds := [.handle], laidTests := true, laidLooks := .later }
def FnExactFanTidyCardSaid : Prop := Claim7.holds Tryd.pinned (.plain (OpenSpec.ofChange fnExactFanTidySpec)) fnExactFanTidyCard

/-- THE TIED CARD OF 'laws.FnExactFanSmooth'. -/
def fnExactFanSmoothCard : Claim7 := { stood := { row := fnExactFanSmoothRow, standIns := [], harness := (true, "81269563de2a533da754ef200f95e1338fc02e7e6db57b5c6812b2908e24d4ae"), looks := true }, kinds := [], alts := [], laidByText := true, laidKinds := [.handle], laidTests := true, laidLooks := .later }
def FnExactFanSmoothCardSaid : Prop := Claim7.holds Tryd.pinned (.plain (OpenSpec.ofChange fnExactFanSmoothSpec)) fnExactFanSmoothCard

/-- THE TIED CARD OF 'laws.FnExactFanCone'. -/
def fnExactFanConeCard : Claim7 := { stood := { row := fnExactFanConeRow, standIns := [], harness := (true, "81269563de2a533da754ef200f95e1338fc02e7e6db57b5c6812b2908e24d4ae"), looks := true }, kinds := [], alts := [], laidByText := true, laidKinds := [.handle], laidTests := true, laidLooks := .later }
def FnExactFanConeCardSaid : Prop := Claim7.holds Tryd.pinned (.plain (OpenSpec.ofChange fnExactFanConeSpec)) fnExactFanConeCard

/-- THE TIED CARD OF 'laws.FnExactFanWhere'. -/
def fnExactFanWhereCard : Claim7 := { stood := { row := fnExactFanWhereRow, standIns := [], harness := (true, "81269563de2a533da754ef200f95e1338fc02e7e6db57b5c6812b2908e24d4ae"), looks := true }, kinds := [], alts := [], laidByText := true, laidKinds := [.handle], laidTests := true, laidLooks := .later }
def FnExactFanWhereCardSaid : Prop := Claim7.holds Tryd.pinned (.plain (OpenSpec.ofChange fnExactFanWhereSpec)) fnExactFanWhereCard

/-- THE TIED CARD OF 'laws.FnExactFanNumbers'. -/
def fnExactFanNumbersCard : Claim7 := { stood := { row := fnExactFanNumbersRow, standIns := [], harness := (true, "81269563de2a533da754ef200f95e1338fc02e7e6db57b5c6812b2908e24d4ae"), looks := true }, kinds := [], alts := [], laidByText := true, laidKinds := [.handle], laidTests := true, laidLooks := .later }
def FnExactFanNumbersCardSaid : Prop := Claim7.holds Tryd.pinned (.plain (OpenSpec.ofChange fnExactFanNumbersSpec)) fnExactFanNumbersCard

/-- THE TIED CARD OF 'laws.FnExactFanDown'. -/
def fnExactFanDownCard : Claim7 := { stood := { row := fnExactFanDownRow, standIns := [], harness := (true, "81269563de2a533da754ef200f95e1338fc02e7e6db57b5c6812b2908e24d4ae"), looks := true }, kinds := [], alts := [], laidByText := true, laidKinds := [.handle], laidTests := true, laidLooks := .later }
def FnExactFanDownCardSaid : Prop := Claim7.holds Tryd.pinned (.plain (OpenSpec.ofChange fnExactFanDownSpec)) fnExactFanDownCard

/-- THE TIED CARD OF 'laws.FnExactFanLeast'. -/
def fnExactFanLeastCard : Claim7 := { stood := { row := fnExactFanLeastRow, standIns := [], harness := (true, "81269563de2a533da754ef200f95e1338fc02e7e6db57b5c6812b2908e24d4ae"), looks := true }, kinds := [], alts := [], laidByText := true, laidKinds := [.handle], laidTests := true, laidLooks := .later }
def FnExactFanLeastCardSaid : Prop := Claim7.holds Tryd.pinned (.plain (OpenSpec.ofChange fnExactFanLeastSpec)) fnExactFanLeastCard

/-- THE SECOND FORM's CARD OF 'laws.FnExactFanIn'. -/
def fnExactFanInUptoCard : Claim7 := { stood := { row := fnExactFanInUptoRow, standIns := [], harness := (true, "81269563de2a533da754ef200f95e1338fc02e7e6db57b5c6812b2908e24d4ae"), looks := true }, kinds := [], alts := [], laidByText := true, laidKinds := [.handle], laidTests := true, laidLooks := .later }
def FnExactFanInUptoCardSaid : Prop := Claim7.holds Tryd.pinned (.plain (OpenSpec.upto fnExactFanInSpec)) fnExactFanInUptoCard

/-- THE SECOND FORM's CARD OF 'laws.FnExactFanTidy'. -/
def fnExactFanTidyUptoCard : Claim7 := { stood := { row := fnExactFanTidyUptoRow, standIns := [], harness := (true, "81269563de2a533da754ef200f95e1338fc02e7e6db57b5c6812b2908e24d4ae"), looks := true }, kinds := [], alts := [], laidByText := true, laidKinds := [.handle], laidTests := true, laidLooks := .later }
def FnExactFanTidyUptoCardSaid : Prop := Claim7.holds Tryd.pinned (.plain (OpenSpec.upto fnExactFanTidySpec)) fnExactFanTidyUptoCard

/-- THE SECOND FORM's CARD OF 'laws.FnExactFanSmooth'. -/
def fnExactFanSmoothUptoCard : Claim7 := { stood := { row := fnExactFanSmoothUptoRow, standIns := [], harness := (true, "81269563de2a533da754ef200f95e1338fc02e7e6db57b5c6812b2908e24d4ae"), looks := true }, kinds := [], alts := [], laidByText := true, laidKinds := [.handle], laidTests := true, laidLooks := .later }
def FnExactFanSmoothUptoCardSaid : Prop := Claim7.holds Tryd.pinned (.plain (OpenSpec.upto fnExactFanSmoothSpec)) fnExactFanSmoothUptoCard

/-- THE SECOND FORM's CARD OF 'laws.FnExactFanCone'. -/
def fnExactFanConeUptoCard : Claim7 := { stood := { row := fnExactFanConeUptoRow, standIns := [], harness := (true, "81269563de2a533da754ef200f95e1338fc02e7e6db57b5c6812b2908e24d4ae"), looks := true }, kinds := [], alts := [], laidByText := true, laidKinds := [.handle], laidTests := true, laidLooks := .later }
def FnExactFanConeUptoCardSaid : Prop := Claim7.holds Tryd.pinned (.plain (OpenSpec.upto fnExactFanConeSpec)) fnExactFanConeUptoCard

/-- THE SECOND FORM's CARD OF 'laws.FnExactFanWhere'. -/
def fnExactFanWhereUptoCard : Claim7 := { stood := { row := fnExactFanWhereUptoRow, standIns := [], harness := (true, "81269563de2a533da754ef200f95e1338fc02e7e6db57b5c6812b2908e24d4ae"), looks := true }, kinds := [], alts := [], laidByText := true, laidKinds := [.handle], laidTests := true, laidLooks := .later }
def FnExactFanWhereUptoCardSaid : Prop := Claim7.holds Tryd.pinned (.plain (OpenSpec.upto fnExactFanWhereSpec)) fnExactFanWhereUptoCard

/-- THE SECOND FORM's CARD OF 'laws.FnExactFanNumbers'. -/
def fnExactFanNumbersUptoCard : Claim7 := { stood := { row := fnExactFanNumbersUptoRow, standIns := [], harness := (true, "81269563de2a533da754ef200f95e1338fc02e7e6db57b5c6812b2908e24d4ae"), looks := true }, kinds := [], alts := [], laidByText := true, laidKinds := [.handle], laidTests := true, laidLooks := .later }
def FnExactFanNumbersUptoCardSaid : Prop := Claim7.holds Tryd.pinned (.plain (OpenSpec.upto fnExactFanNumbersSpec)) fnExactFanNumbersUptoCard

/-- THE SECOND FORM's CARD OF 'laws.FnExactFanDown'. -/
def fnExactFanDownUptoCard : Claim7 := { stood := { row := fnExactFanDownUptoRow, standIns := [], harness := (true, "81269563de2a533da754ef200f95e1338fc02e7e6db57b5c6812b2908e24d4ae"), looks := true }, kinds := [], alts := [], laidByText := true, laidKinds := [.handle], laidTests := true, laidLooks := .later }
def FnExactFanDownUptoCardSaid : Prop := Claim7.holds Tryd.pinned (.plain (OpenSpec.upto fnExactFanDownSpec)) fnExactFanDownUptoCard

/-- THE SECOND FORM's CARD OF 'laws.FnExactFanLeast'. -/
def fnExactFanLeastUptoCard : Claim7 := { stood := { row := fnExactFanLeastUptoRow, standIns := [], harness := (true, "81269563de2a533da754ef200f95e1338fc02e7e6db57b5c6812b2908e24d4ae"), looks := true }, kinds := [], alts := [], laidByText := true, laidKinds := [.handle], laidTests := true, laidLooks := .later }
def FnExactFanLeastUptoCardSaid : Prop := Claim7.holds Tryd.pinned (.plain (OpenSpec.upto fnExactFanLeastSpec)) fnExactFanLeastUptoCard
end Rows
end Go.Proofs.YtcopcjlcfnamhaaDoor
