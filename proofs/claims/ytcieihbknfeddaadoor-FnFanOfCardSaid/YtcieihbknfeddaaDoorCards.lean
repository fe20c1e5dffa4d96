/-
  DERIVED. GIVEN WITH THE SEED: THE CARDS: each row of YtcieihbknfeddaaDoorRows.lean that lists a variable, with what it lists TIED to the program's text (the seventh form; the later family's looks); each row that meets fmt, with fmt's text TOLD by the authors' own Lean function (tested against real Go, not proved from fmt's source: count such statements apart). THE CARD IS WHAT COUNTS. Prove the row's statement (the work); the ties are given (YtcieihbknfeddaaDoorTie.lean); close each card by the builder's one call (the guide's Derived/Test/ToyasCard.lean, 'card_holds'). Laid BY PROGRAM, IN A SANDBOX (cutbox-door.mjs). By AI agents, Wed Nov 11 2026. No macro, syntax, notation, axiom, sorry.
-/
import Derived.Test.YtcieihbknfeddaaDoorRows
import GoSem.ClaimSeven
namespace Go.Proofs.YtcieihbknfeddaaDoor
namespace Rows

/-- THE TIED CARD OF 'laws.FnMove'. -/
def fnMoveCard : Claim7 := { stood := { row := fnMoveRow, standIns := [], harness := (true, "fb816966c8ecccc9e58f2dc673a9916cee9f43e00f8182bb01900d93e5945068"), looks := true }, kinds := [], alts := [], laidByText := true, laidKinds := [.handle], laidTests := true, laidLooks := .later }
def FnMoveCardSaid : Prop := Claim7.holds Tryd.pinned (.plain (OpenSpec.ofChange fnMoveSpec)) fnMoveCard

/-- THE TIED CARD OF 'laws.FnExactFanIn'. -/
def fnExactFanInCard : Claim7 := { stood := { row := fnExactFanInRow, standIns := [], harness := (true, "fb816966c8ecccc9e58f2dc673a9916cee9f43e00f8182bb01900d93e5945068"), looks := true }, kinds := [], alts := [], laidByText := true, laidKinds := [.handle], laidTests := true, laidLooks := .later }
def FnExactFanInCardSaid : Prop := Claim7.holds Tryd.pinned (.plain (OpenSpec.ofChange fnExactFanInSpec)) fnExactFanInCard

/-- THE TIED CARD OF 'laws.FnExactFanTidy'. -/
def fnExactFanTidyCard : Claim7 := { stood := { row := fnExactFanTidyRow, standIns := [], harness := (true, "fb816966c8ecccc9e58f2dc673a9916cee9f43e00f8182bb01900d93e5945068"), looks := true }, kinds := [], alts := [], laidByText := true, laidKinds := [.handle], laidTests := true, laidLooks := .later }
def FnExactFanTidyCardSaid : Prop := Claim7.holds Tryd.pinned (.plain (OpenSpec.ofChange fnExactFanTidySpec)) fnExactFanTidyCard

/-- THE TIED CARD OF 'laws.FnExactFanOf'. -/
def fnExactFanOfCard : Claim7 := { stood := { row := fnExactFanOfRow, standIns := [], harness := (true, "fb816966c8ecccc9e58f2dc673a9916cee9f43e00f8182bb01900d93e5945068"), looks := true }, kinds := [], alts := [], laidByText := true, laidKinds := [.handle], laidTests := true, laidLooks := .later }
def FnExactFanOfCardSaid : Prop := Claim7.holds Tryd.pinned (.plain (OpenSpec.ofChange fnExactFanOfSpec)) fnExactFanOfCard

/-- THE TIED CARD OF 'laws.FnExactFanSmooth'. -/
def fnExactFanSmoothCard : Claim7 := { stood := { row := fnExactFanSmoothRow, standIns := [], harness := (true, "fb816966c8ecccc9e58f2dc673a9916cee9f43e00f8182bb01900d93e5945068"), looks := true }, kinds := [], alts := [], laidByText := true, laidKinds := [.handle], laidTests := true, laidLooks := .later }
def FnExactFanSmoothCardSaid : Prop := Claim7.holds Tryd.pinned (.plain (OpenSpec.ofChange fnExactFanSmoothSpec)) fnExactFanSmoothCard

/-- THE TIED CARD OF 'laws.FnExactFanCone'. -/
def fnExactFanConeCard : Claim7 := { stood := { row := fnExactFanConeRow, standIns := [], harness := (true, "fb816966c8ecccc9e58f2dc673a9916cee9f43e00f8182bb01900d93e5945068"), looks := true }, kinds := [], alts := [], laidByText := true, laidKinds := [.handle], laidTests := true, laidLooks := .later }
def FnExactFanConeCardSaid : Prop := Claim7.holds Tryd.pinned (.plain (OpenSpec.ofChange fnExactFanConeSpec)) fnExactFanConeCard

/-- THE TIED CARD OF 'laws.FnExactFanWhere'. -/
def fnExactFanWhereCard : Claim7 := { stood := { row := fnExactFanWhereRow, standIns := [], harness := (true, "fb816966c8ecccc9e58f2dc673a9916cee9f43e00f8182bb01900d93e5945068"), looks := true }, kinds := [], alts := [], laidByText := true, laidKinds := [.handle], laidTests := true, laidLooks := .later }
def FnExactFanWhereCardSaid : Prop := Claim7.holds Tryd.pinned (.plain (OpenSpec.ofChange fnExactFanWhereSpec)) fnExactFanWhereCard

/-- THE TIED CARD OF 'laws.FnExactFanNumbers'. -/
def fnExactFanNumbersCard : Claim7 := { stood := { row := fnExactFanNumbersRow, standIns := [], harness := (true, "fb816966c8ecccc9e58f2dc673a9916cee9f43e00f8182bb01900d93e5945068"), looks := true }, kinds := [], alts := [], laidByText := true, laidKinds := [.handle], laidTests := true, laidLooks := .later }
def FnExactFanNumbersCardSaid : Prop := Claim7.holds Tryd.pinned (.plain (OpenSpec.ofChange fnExactFanNumbersSpec)) fnExactFanNumbersCard

/-- THE TIED CARD OF 'laws.FnExactFanBlow'. -/
def fnExactFanBlowCard : Claim7 := { stood := { row := fnExactFanBlowRow, standIns := [], harness := (true, "fb816966c8ecccc9e58f2dc673a9916cee9f43e00f8182bb01900d93e5945068"), looks := true }, kinds := [], alts := [], laidByText := true, laidKinds := [.handle], laidTests := true, laidLooks := .later }
def FnExactFanBlowCardSaid : Prop := Claim7.holds Tryd.pinned (.plain (OpenSpec.ofChange fnExactFanBlowSpec)) fnExactFanBlowCard

/-- THE TIED CARD OF 'laws.FnExactFanDown'. -/
def fnExactFanDownCard : Claim7 := { stood := { row := fnExactFanDownRow, standIns := [], harness := (true, "fb816966c8ecccc9e58f2dc673a9916cee9f43e00f8182bb01900d93e5945068"), looks := true }, kinds := [], alts := [], laidByText := true, laidKinds := [.handle], laidTests := true, laidLooks := .later }
def FnExactFanDownCardSaid : Prop := Claim7.holds Tryd.pinned (.plain (OpenSpec.ofChange fnExactFanDownSpec)) fnExactFanDownCard

/-- THE TIED CARD OF 'laws.FnExactFanLeast'. -/
def fnExactFanLeastCard : Claim7 := { stood := { row := fnExactFanLeastRow, standIns := [], harness := (true, "fb816966c8ecccc9e58f2dc673a9916cee9f43e00f8182bb01900d93e5945068"), looks := true }, kinds := [], alts := [], laidByText := true, laidKinds := [.handle], laidTests := true, laidLooks := .later }
def FnExactFanLeastCardSaid : Prop := Claim7.holds Tryd.pinned (.plain (OpenSpec.ofChange fnExactFanLeastSpec)) fnExactFanLeastCard

/-- THE TIED CARD OF 'laws.FnExactFanResolve'. -/
def fnExactFanResolveCard : Claim7 := { stood := { row := fnExactFanResolveRow, standIns := [], harness := (true, "fb816966c8ecccc9e58f2dc673a9916cee9f43e00f8182bb01900d93e5945068"), looks := true }, kinds := [], alts := [], laidByText := true, laidKinds := [.handle], laidTests := true, laidLooks := .later }
def FnExactFanResolveCardSaid : Prop := Claim7.holds Tryd.pinned (.plain (OpenSpec.ofChange fnExactFanResolveSpec)) fnExactFanResolveCard

/-- THE TIED CARD OF 'laws.FnExactFanMove'. -/
def fnExactFanMoveCard : Claim7 := { stood := { row := fnExactFanMoveRow, standIns := [], harness := (true, "fb816966c8ecccc9e58f2dc673a9916cee9f43e00f8182bb01900d93e5945068"), looks := true }, kinds := [], alts := [], laidByText := true, laidKinds := [.handle], laidTests := true, laidLooks := .later }
def FnExactFanMoveCardSaid : Prop := Claim7.holds Tryd.pinned (.plain (OpenSpec.ofChange fnExactFanMoveSpec)) fnExactFanMoveCard

/-- THE TIED CARD OF 'laws.FnExactFanKind'. -/
def fnExactFanKindCard : Claim7 := { stood := { row := fnExactFanKindRow, standIns := [], harness := (true, "fb816966c8ecccc9e58f2dc673a9916cee9f43e00f8182bb01900d93e5945068"), looks := true }, kinds := [], alts := [], laidByText := true, laidKinds := [.handle], laidTests := true, laidLooks := .later }
def FnExactFanKindCardSaid : Prop := Claim7.holds Tryd.pinned (.plain (OpenSpec.ofChange fnExactFanKindSpec)) fnExactFanKindCard

/-- THE TIED CARD OF 'laws.FnExactFanBuild'. -/
def fnExactFanBuildCard : Claim7 := { stood := { row := fnExactFanBuildRow, standIns := [], harness := (true, "fb816966c8ecccc9e58f2dc673a9916cee9f43e00f8182bb01900d93e5945068"), looks := true }, kinds := [], alts := [], laidByText := true, laidKinds := [.handle], laidTests := true, laidLooks := .later }
def FnExactFanBuildCardSaid : Prop := Claim7.holds Tryd.pinned (.plain (OpenSpec.ofChange fnExactFanBuildSpec)) fnExactFanBuildCard

/-- THE TIED CARD OF 'laws.FnFanOf'. -/
def fnFanOfCard : Claim7 := { stood := { row := fnFanOfRow, standIns := [], harness := (true, "fb816966c8ecccc9e58f2dc673a9916cee9f43e00f8182bb01900d93e5945068"), looks := true }, kinds := [], alts := [], laidByText := true, laidKinds := [.handle], laidTests := true, laidLooks := .later }
def FnFanOfCardSaid : Prop := Claim7.holds Tryd.pinned (.plain (OpenSpec.ofChange fnFanOfSpec)) fnFanOfCard

/-- THE SECOND FORM's CARD OF 'laws.FnMove'. -/
def fnMoveUptoCard : Claim7 := { stood := { row := fnMoveUptoRow, standIns := [], harness := (true, "fb816966c8ecccc9e58f2dc673a9916cee9f43e00f8182bb01900d93e5945068"), looks := true }, kinds := [], alts := [], laidByText := true, laidKinds := [.handle], laidTests := true, laidLooks := .later }
def FnMoveUptoCardSaid : Prop := Claim7.holds Tryd.pinned (.plain (OpenSpec.upto fnMoveSpec)) fnMoveUptoCard

/-- THE SECOND FORM's CARD OF 'laws.FnExactFanIn'. -/
def fnExactFanInUptoCard : Claim7 := { stood := { row := fnExactFanInUptoRow, standIns := [], harness := (true, "fb816966c8ecccc9e58f2dc673a9916cee9f43e00f8182bb01900d93e5945068"), looks := true }, kinds := [], alts := [], laidByText := true, laidKinds := [.handle], laidTests := true, laidLooks := .later }
def FnExactFanInUptoCardSaid : Prop := Claim7.holds Tryd.pinned (.plain (OpenSpec.upto fnExactFanInSpec)) fnExactFanInUptoCard

/-- THE SECOND FORM's CARD OF 'laws.FnExactFanTidy'. -/
def fnExactFanTidyUptoCard : Claim7 := { stood := { row := fnExactFanTidyUptoRow, standIns := [], harness := (true, "fb816966c8ecccc9e58f2dc673a9916cee9f43e00f8182bb01900d93e5945068"), looks := true }, kinds := [], alts := [], laidByText := true, laidKinds := [.handle], laidTests := true, laidLooks := .later }
def FnExactFanTidyUptoCardSaid : Prop := Claim7.holds Tryd.pinned (.plain (OpenSpec.upto fnExactFanTidySpec)) fnExactFanTidyUptoCard

/-- THE SECOND FORM's CARD OF 'laws.FnExactFanOf'. -/
def fnExactFanOfUptoCard : Claim7 := { stood := { row := fnExactFanOfUptoRow, standIns := [], harness := (true, "fb816966c8ecccc9e58f2dc673a9916cee9f43e00f8182bb01900d93e5945068"), looks := true }, kinds := [], alts := [], laidByText := true, laidKinds := [.handle], laidTests := true, laidLooks := .later }
def FnExactFanOfUptoCardSaid : Prop := Claim7.holds Tryd.pinned (.plain (OpenSpec.upto fnExactFanOfSpec)) fnExactFanOfUptoCard

/-- THE SECOND FORM's CARD OF 'laws.FnExactFanSmooth'. -/
def fnExactFanSmoothUptoCard : Claim7 := { stood := { row := fnExactFanSmoothUptoRow, standIns := [], harness := (true, "fb816966c8ecccc9e58f2dc673a9916cee9f43e00f8182bb01900d93e5945068"), looks := true }, kinds := [], alts := [], laidByText := true, laidKinds := [.handle], laidTests := true, laidLooks := .later }
def FnExactFanSmoothUptoCardSaid : Prop := Claim7.holds Tryd.pinned (.plain (OpenSpec.upto fnExactFanSmoothSpec)) fnExactFanSmoothUptoCard

/-- THE SECOND FORM's CARD OF 'laws.FnExactFanCone'. -/
def fnExactFanConeUptoCard : Claim7 := { stood := { row := fnExactFanConeUptoRow, standIns := [], harness := (true, "fb816966c8ecccc9e58f2dc673a9916cee9f43e00f8182bb01900d93e5945068"), looks := true }, kinds := [], alts := [], laidByText := true, laidKinds := [.handle], laidTests := true, laidLooks := .later }
def FnExactFanConeUptoCardSaid : Prop := Claim7.holds Tryd.pinned (.plain (OpenSpec.upto fnExactFanConeSpec)) fnExactFanConeUptoCard

/-- THE SECOND FORM's CARD OF 'laws.FnExactFanWhere'. -/
def fnExactFanWhereUptoCard : Claim7 := { stood := { row := fnExactFanWhereUptoRow, standIns := [], harness := (true, "fb816966c8ecccc9e58f2dc673a9916cee9f43e00f8182bb01900d93e5945068"), looks := true }, kinds := [], alts := [], laidByText := true, laidKinds := [.handle], laidTests := true, laidLooks := .later }
def FnExactFanWhereUptoCardSaid : Prop := Claim7.holds Tryd.pinned (.plain (OpenSpec.upto fnExactFanWhereSpec)) fnExactFanWhereUptoCard

/-- THE SECOND FORM's CARD OF 'laws.FnExactFanNumbers'. -/
def fnExactFanNumbersUptoCard : Claim7 := { stood := { row := fnExactFanNumbersUptoRow, standIns := [], harness := (true, "fb816966c8ecccc9e58f2dc673a9916cee9f43e00f8182bb01900d93e5945068"), looks := true }, kinds := [], alts := [], laidByText := true, laidKinds := [.handle], laidTests := true, laidLooks := .later }
def FnExactFanNumbersUptoCardSaid : Prop := Claim7.holds Tryd.pinned (.plain (OpenSpec.upto fnExactFanNumbersSpec)) fnExactFanNumbersUptoCard

/-- THE SECOND FORM's CARD OF 'laws.FnExactFanBlow'. -/
def fnExactFanBlowUptoCard : Claim7 := { stood := { row := fnExactFanBlowUptoRow, standIns := [], harness := (true, "fb816966c8ecccc9e58f2dc673a9916cee9f43e00f8182bb01900d93e5945068"), looks := true }, kinds := [], alts := [], laidByText := true, laidKinds := [.handle], laidTests := true, laidLooks := .later }
def FnExactFanBlowUptoCardSaid : Prop := Claim7.holds Tryd.pinned (.plain (OpenSpec.upto fnExactFanBlowSpec)) fnExactFanBlowUptoCard

/-- THE SECOND FORM's CARD OF 'laws.FnExactFanDown'. -/
def fnExactFanDownUptoCard : Claim7 := { stood := { row := fnExactFanDownUptoRow, standIns := [], harness := (true, "fb816966c8ecccc9e58f2dc673a9916cee9f43e00f8182bb01900d93e5945068"), looks := true }, kinds := [], alts := [], laidByText := true, laidKinds := [.handle], laidTests := true, laidLooks := .later }
def FnExactFanDownUptoCardSaid : Prop := Claim7.holds Tryd.pinned (.plain (OpenSpec.upto fnExactFanDownSpec)) fnExactFanDownUptoCard

/-- THE SECOND FORM's CARD OF 'laws.FnExactFanLeast'. -/
def fnExactFanLeastUptoCard : Claim7 := { stood := { row := fnExactFanLeastUptoRow, standIns := [], harness := (true, "fb816966c8ecccc9e58f2dc673a9916cee9f43e00f8182bb01900d93e5945068"), looks := true }, kinds := [], alts := [], laidByText := true, laidKinds := [.handle], laidTests := true, laidLooks := .later }
def FnExactFanLeastUptoCardSaid : Prop := Claim7.holds Tryd.pinned (.plain (OpenSpec.upto fnExactFanLeastSpec)) fnExactFanLeastUptoCard

/-- THE SECOND FORM's CARD OF 'laws.FnExactFanResolve'. -/
def fnExactFanResolveUptoCard : Claim7 := { stood := { row := fnExactFanResolveUptoRow, standIns := [], harness := (true, "fb816966c8ecccc9e58f2dc673a9916cee9f43e00f8182bb01900d93e5945068"), looks := true }, kinds := [], alts := [], laidByText := true, laidKinds := [.handle], laidTests := true, laidLooks := .later }
def FnExactFanResolveUptoCardSaid : Prop := Claim7.holds Tryd.pinned (.plain (OpenSpec.upto fnExactFanResolveSpec)) fnExactFanResolveUptoCard

/-- THE SECOND FORM's CARD OF 'laws.FnExactFanMove'. -/
def fnExactFanMoveUptoCard : Claim7 := { stood := { row := fnExactFanMoveUptoRow, standIns := [], harness := (true, "fb816966c8ecccc9e58f2dc673a9916cee9f43e00f8182bb01900d93e5945068"), looks := true }, kinds := [], alts := [], laidByText := true, laidKinds := [.handle], laidTests := true, laidLooks := .later }
def FnExactFanMoveUptoCardSaid : Prop := Claim7.holds Tryd.pinned (.plain (OpenSpec.upto fnExactFanMoveSpec)) fnExactFanMoveUptoCard

/-- THE SECOND FORM's CARD OF 'laws.FnExactFanKind'. -/
def fnExactFanKindUptoCard : Claim7 := { stood := { row := fnExactFanKindUptoRow, standIns := [], harness := (true, "fb816966c8ecccc9e58f2dc673a9916cee9f43e00f8182bb01900d93e5945068"), looks := true }, kinds := [], alts := [], laidByText := true, laidKinds := [.handle], laidTests := true, laidLooks := .later }
def FnExactFanKindUptoCardSaid : Prop := Claim7.holds Tryd.pinned (.plain (OpenSpec.upto fnExactFanKindSpec)) fnExactFanKindUptoCard

/-- THE SECOND FORM's CARD OF 'laws.FnExactFanBuild'. -/
def fnExactFanBuildUptoCard : Claim7 := { stood := { row := fnExactFanBuildUptoRow, standIns := [], harness := (true, "fb816966c8ecccc9e58f2dc673a9916cee9f43e00f8182bb01900d93e5945068"), looks := true }, kinds := [], alts := [], laidByText := true, laidKinds := [.handle], laidTests := true, laidLooks := .later }
def FnExactFanBuildUptoCardSaid : Prop := Claim7.holds Tryd.pinned (.plain (OpenSpec.upto fnExactFanBuildSpec)) fnExactFanBuildUptoCard

/-- THE SECOND FORM's CARD OF 'laws.FnFanOf'. -/
def fnFanOfUptoCard : Claim7 := { stood := { row := fnFanOfUptoRow, standIns := [], harness := (true, "fb816966c8ecccc9e58f2dc673a9916cee9f43e00f8182bb01900d93e5945068"), looks := true }, kinds := [], alts := [], laidByText := true, laidKinds := [.handle], laidTests := true, laidLooks := .later }
def FnFanOfUptoCardSaid : Prop := Claim7.holds Tryd.pinned (.plain (OpenSpec.upto fnFanOfSpec)) fnFanOfUptoCard
end Rows
end Go.Proofs.YtcieihbknfeddaaDoor
