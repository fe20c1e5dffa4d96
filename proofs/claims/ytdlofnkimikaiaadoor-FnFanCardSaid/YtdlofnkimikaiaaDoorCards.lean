/-
  DERIVED. GIVEN WITH THE SEED: THE CARDS: each row of YtdlofnkimikaiaaDoorRows.lean that lists a variable, with what it lists TIED to the program's text (the seventh form; the later family's looks); each row that meets fmt, with fmt's text TOLD by the authors' own Lean function (tested against real Go, not proved from fmt's source: count such statements apart). THE CARD IS WHAT COUNTS. Prove the row's statement (the work); the ties are given (YtdlofnkimikaiaaDoorTie.lean); close each card by the builder's one call (the guide's Derived/Test/ToyasCard.lean, 'card_holds'). Laid BY PROGRAM, IN A SANDBOX (cutbox-door.mjs). By AI agents, Wed Nov 11 2026. No macro, syntax, notation, axiom, sorry.
-/
import Derived.Test.YtdlofnkimikaiaaDoorRows
import GoSem.ClaimSeven
namespace Go.Proofs.YtdlofnkimikaiaaDoor
namespace Rows

/-- THE TIED CARD OF 'laws.FnFan'. -/
def fnFanCard : Claim7 := { stood := { row := fnFanRow, standIns := [], harness := (true, "b360b3f1e523a987ddca022eaba286c98be24cafe00951038a5b55525c1c7ca4"), looks := true }, kinds := [], alts := [], laidByText := true, laidKinds := [.handle], laidTests := true, laidLooks := .later }
def FnFanCardSaid : Prop := Claim7.holds Tryd.pinned (.plain (OpenSpec.ofChange fnFanSpec)) fnFanCard

/-- THE TIED CARD OF 'laws.FnTidy'. -/
def fnTidyCard : Claim7 := { stood := { row := fnTidyRow, standIns := [], harness := (true, "b360b3f1e523a987ddca022eaba286c98be24cafe00951038a5b55525c1c7ca4"), looks := true }, kinds := [], alts := [], laidByText := true, laidKinds := [.handle], laidTests := true, laidLooks := .later }
def FnTidyCardSaid : Prop := Claim7.holds Tryd.pinned (.plain (OpenSpec.ofChange fnTidySpec)) fnTidyCard

/-- THE TIED CARD OF 'laws.FnFanOf'. -/
def fnFanOfCard : Claim7 := { stood := { row := fnFanOfRow, standIns := [], harness := (true, "b360b3f1e523a987ddca022eaba286c98be24cafe00951038a5b55525c1c7ca4"), looks := true }, kinds := [], alts := [], laidByText := true, laidKinds := [.handle], laidTests := true, laidLooks := .later }
def FnFanOfCardSaid : Prop := Claim7.holds Tryd.pinned (.plain (OpenSpec.ofChange fnFanOfSpec)) fnFanOfCard

/-- THE TIED CARD OF 'laws.FnSmooth'. -/
def fnSmoothCard : Claim7 := { stood := { row := fnSmoothRow, standIns := [], harness := (true, "b360b3f1e523a987ddca022eaba286c98be24cafe00951038a5b55525c1c7ca4"), looks := true }, kinds := [], alts := [], laidByText := true, laidKinds := [.handle], laidTests := true, laidLooks := .later }
def FnSmoothCardSaid : Prop := Claim7.holds Tryd.pinned (.plain (OpenSpec.ofChange fnSmoothSpec)) fnSmoothCard

/-- THE TIED CARD OF 'laws.FnFanCone'. -/
def fnFanConeCard : Claim7 := { stood := { row := fnFanConeRow, standIns := [], harness := (true, "b360b3f1e523a987ddca022eaba286c98be24cafe00951038a5b55525c1c7ca4"), looks := true }, kinds := [], alts := [], laidByText := true, laidKinds := [.handle], laidTests := true, laidLooks := .later }
def FnFanConeCardSaid : Prop := Claim7.holds Tryd.pinned (.plain (OpenSpec.ofChange fnFanConeSpec)) fnFanConeCard

/-- THE TIED CARD OF 'laws.FnWhere'. -/
def fnWhereCard : Claim7 := { stood := { row := fnWhereRow, standIns := [], harness := (true, "b360b3f1e523a987ddca022eaba286c98be24cafe00951038a5b55525c1c7ca4"), looks := true }, kinds := [], alts := [], laidByText := true, laidKinds := [.handle], laidTests := true, laidLooks := .later }
def FnWhereCardSaid : Prop := Claim7.holds Tryd.pinned (.plain (OpenSpec.ofChange fnWhereSpec)) fnWhereCard

/-- THE TIED CARD OF 'laws.FnDown'. -/
def fnDownCard : Claim7 := { stood := { row := fnDownRow, standIns := [], harness := (true, "b360b3f1e523a987ddca022eaba286c98be24cafe00951038a5b55525c1c7ca4"), looks := true }, kinds := [], alts := [], laidByText := true, laidKinds := [.handle], laidTests := true, laidLooks := .later }
def FnDownCardSaid : Prop := Claim7.holds Tryd.pinned (.plain (OpenSpec.ofChange fnDownSpec)) fnDownCard

/-- THE TIED CARD OF 'laws.FnLeast'. -/
def fnLeastCard : Claim7 := { stood := { row := fnLeastRow, standIns := [], harness := (true, "b360b3f1e523a987ddca022eaba286c98be24cafe00951038a5b55525c1c7ca4"), looks := true }, kinds := [], alts := [], laidByText := true, laidKinds := [.handle], laidTests := true, laidLooks := .later }
def FnLeastCardSaid : Prop := Claim7.holds Tryd.pinned (.plain (OpenSpec.ofChange fnLeastSpec)) fnLeastCard

/-- THE TIED CARD OF 'laws.FnResolve'. -/
def fnResolveCard : Claim7 := { stood := { row := fnResolveRow, standIns := [], harness := (true, "b360b3f1e523a987ddca022eaba286c98be24cafe00951038a5b55525c1c7ca4"), looks := true }, kinds := [], alts := [], laidByText := true, laidKinds := [.handle], laidTests := true, laidLooks := .later }
def FnResolveCardSaid : Prop := Claim7.holds Tryd.pinned (.plain (OpenSpec.ofChange fnResolveSpec)) fnResolveCard

/-- THE TIED CARD OF 'laws.FnBuild'. -/
def fnBuildCard : Claim7 := { stood := { row := fnBuildRow, standIns := [], harness := (true, "b360b3f1e523a987ddca022eaba286c98be24cafe00951038a5b55525c1c7ca4"), looks := true }, kinds := [], alts := [], laidByText := true, laidKinds := [.handle], laidTests := true, laidLooks := .later }
def FnBuildCardSaid : Prop := Claim7.holds Tryd.pinned (.plain (OpenSpec.ofChange fnBuildSpec)) fnBuildCard

/-- THE SECOND FORM's CARD OF 'laws.FnFan'. -/
def fnFanUptoCard : Claim7 := { stood := { row := fnFanUptoRow, standIns := [], harness := (true, "b360b3f1e523a987ddca022eaba286c98be24cafe00951038a5b55525c1c7ca4"), looks := true }, kinds := [], alts := [], laidByText := true, laidKinds := [.handle], laidTests := true, laidLooks := .later }
def FnFanUptoCardSaid : Prop := Claim7.holds Tryd.pinned (.plain (OpenSpec.upto fnFanSpec)) fnFanUptoCard

/-- THE SECOND FORM's CARD OF 'laws.FnTidy'. -/
def fnTidyUptoCard : Claim7 := { stood := { row := fnTidyUptoRow, standIns := [], harness := (true, "b360b3f1e523a987ddca022eaba286c98be24cafe00951038a5b55525c1c7ca4"), looks := true }, kinds := [], alts := [], laidByText := true, laidKinds := [.handle], laidTests := true, laidLooks := .later }
def FnTidyUptoCardSaid : Prop := Claim7.holds Tryd.pinned (.plain (OpenSpec.upto fnTidySpec)) fnTidyUptoCard

/-- THE SECOND FORM's CARD OF 'laws.FnFanOf'. -/
def fnFanOfUptoCard : Claim7 := { stood := { row := fnFanOfUptoRow, standIns := [], harness := (true, "b360b3f1e523a987ddca022eaba286c98be24cafe00951038a5b55525c1c7ca4"), looks := true }, kinds := [], alts := [], laidByText := true, laidKinds := [.handle], laidTests := true, laidLooks := .later }
def FnFanOfUptoCardSaid : Prop := Claim7.holds Tryd.pinned (.plain (OpenSpec.upto fnFanOfSpec)) fnFanOfUptoCard

/-- THE SECOND FORM's CARD OF 'laws.FnSmooth'. -/
def fnSmoothUptoCard : Claim7 := { stood := { row := fnSmoothUptoRow, standIns := [], harness := (true, "b360b3f1e523a987ddca022eaba286c98be24cafe00951038a5b55525c1c7ca4"), looks := true }, kinds := [], alts := [], laidByText := true, laidKinds := [.handle], laidTests := true, laidLooks := .later }
def FnSmoothUptoCardSaid : Prop := Claim7.holds Tryd.pinned (.plain (OpenSpec.upto fnSmoothSpec)) fnSmoothUptoCard

/-- THE SECOND FORM's CARD OF 'laws.FnFanCone'. -/
def fnFanConeUptoCard : Claim7 := { stood := { row := fnFanConeUptoRow, standIns := [], harness := (true, "b360b3f1e523a987ddca022eaba286c98be24cafe00951038a5b55525c1c7ca4"), looks := true }, kinds := [], alts := [], laidByText := true, laidKinds := [.handle], laidTests := true, laidLooks := .later }
def FnFanConeUptoCardSaid : Prop := Claim7.holds Tryd.pinned (.plain (OpenSpec.upto fnFanConeSpec)) fnFanConeUptoCard

/-- THE SECOND FORM's CARD OF 'laws.FnWhere'. -/
def fnWhereUptoCard : Claim7 := { stood := { row := fnWhereUptoRow, standIns := [], harness := (true, "b360b3f1e523a987ddca022eaba286c98be24cafe00951038a5b55525c1c7ca4"), looks := true }, kinds := [], alts := [], laidByText := true, laidKinds := [.handle], laidTests := true, laidLooks := .later }
def FnWhereUptoCardSaid : Prop := Claim7.holds Tryd.pinned (.plain (OpenSpec.upto fnWhereSpec)) fnWhereUptoCard

/-- THE SECOND FORM's CARD OF 'laws.FnDown'. -/
def fnDownUptoCard : Claim7 := { stood := { row := fnDownUptoRow, standIns := [], harness := (true, "b360b3f1e523a987ddca022eaba286c98be24cafe00951038a5b55525c1c7ca4"), looks := true }, kinds := [], alts := [], laidByText := true, laidKinds := [.handle], laidTests := true, laidLooks := .later }
def FnDownUptoCardSaid : Prop := Claim7.holds Tryd.pinned (.plain (OpenSpec.upto fnDownSpec)) fnDownUptoCard

/-- THE SECOND FORM's CARD OF 'laws.FnLeast'. -/
def fnLeastUptoCard : Claim7 := { stood := { row := fnLeastUptoRow, standIns := [], harness := (true, "b360b3f1e523a987ddca022eaba286c98be24cafe00951038a5b55525c1c7ca4"), looks := true }, kinds := [], alts := [], laidByText := true, laidKinds := [.handle], laidTests := true, laidLooks := .later }
def FnLeastUptoCardSaid : Prop := Claim7.holds Tryd.pinned (.plain (OpenSpec.upto fnLeastSpec)) fnLeastUptoCard

/-- THE SECOND FORM's CARD OF 'laws.FnResolve'. -/
def fnResolveUptoCard : Claim7 := { stood := { row := fnResolveUptoRow, standIns := [], harness := (true, "b360b3f1e523a987ddca022eaba286c98be24cafe00951038a5b55525c1c7ca4"), looks := true }, kinds := [], alts := [], laidByText := true, laidKinds := [.handle], laidTests := true, laidLooks := .later }
def FnResolveUptoCardSaid : Prop := Claim7.holds Tryd.pinned (.plain (OpenSpec.upto fnResolveSpec)) fnResolveUptoCard

/-- THE SECOND FORM's CARD OF 'laws.FnBuild'. -/
def fnBuildUptoCard : Claim7 := { stood := { row := fnBuildUptoRow, standIns := [], harness := (true, "b360b3f1e523a987ddca022eaba286c98be24cafe00951038a5b55525c1c7ca4"), looks := true }, kinds := [], alts := [], laidByText := true, laidKinds := [.handle], laidTests := true, laidLooks := .later }
def FnBuildUptoCardSaid : Prop := Claim7.holds Tryd.pinned (.plain (OpenSpec.upto fnBuildSpec)) fnBuildUptoCard
end Rows
end Go.Proofs.YtdlofnkimikaiaaDoor
