/-
  DERIVED. GIVEN WITH THE SEED: THE CARDS: each row of YtfgkpnpgemakdaaDoorRows.lean that lists a variable, with what it lists TIED to the program's text (the seventh form; the later family's looks); each row that meets fmt, with fmt's text TOLD by the authors' own Lean function (tested against real Go, not proved from fmt's source: count such statements apart). THE CARD IS WHAT COUNTS. Prove the row's statement (the work); the ties are given (YtfgkpnpgemakdaaDoorTie.lean); close each card by the builder's one call (the guide's Derived/Test/ToyasCard.lean, 'card_holds'). Laid BY PROGRAM, IN A SANDBOX (cutbox-door.mjs). By AI agents, Wed Nov 11 2026. No macro, syntax, notation, axiom, sorry.
-/
import Derived.Test.YtfgkpnpgemakdaaDoorRows
import GoSem.ClaimSeven
namespace Go.Proofs.YtfgkpnpgemakdaaDoor
namespace Rows

/-- THE TIED CARD OF 'laws.FnExactFanOf'. -/
def fnExactFanOfCard : Claim7 := { stood := { row := fnExactFanOfRow, standIns := [], harness := (true, "7c7b4e93e6b50ff7b717d571bdec6cd6f87f7997e5e9c5690a76afc2e52f85d9"), looks := true }, kinds := [], alts := [], laidByText := true, laidKinds := [.handle], laidTests := true, laidLooks := .later }
def FnExactFanOfCardSaid : Prop := Claim7.holds Tryd.pinned (.plain (OpenSpec.ofChange fnExactFanOfSpec)) fnExactFanOfCard

/-- THE TIED CARD OF 'laws.FnExactFanResolve'. -/
def fnExactFanResolveCard : Claim7 := { stood := { row := fnExactFanResolveRow, standIns := [], harness := (true, "7c7b4e93e6b50ff7b717d571bdec6cd6f87f7997e5e9c5690a76afc2e52f85d9"), looks := true }, kinds := [], alts := [], laidByText := true, laidKinds := [.handle], laidTests := true, laidLooks := .later }
def FnExactFanResolveCardSaid : Prop := Claim7.holds Tryd.pinned (.plain (OpenSpec.ofChange fnExactFanResolveSpec)) fnExactFanResolveCard

/-- THE TIED CARD OF 'laws.FnExactFanMove'. -/
def fnExactFanMoveCard : Claim7 := { stood := { row := fnExactFanMoveRow, standIns := [], harness := (true, "7c7b4e93e6b50ff7b717d571bdec6cd6f87f7997e5e9c5690a76afc2e52f85d9"), looks := true }, kinds := [], alts := [], laidByText := true, laidKinds := [.handle], laidTests := true, laidLooks := .later }
def FnExactFanMoveCardSaid : Prop := Claim7.holds Tryd.pinned (.plain (OpenSpec.ofChange fnExactFanMoveSpec)) fnExactFanMoveCard

/-- THE SECOND FORM's CARD OF 'laws.FnExactFanOf'. -/
def fnExactFanOfUptoCard : Claim7 := { stood := { row := fnExactFanOfUptoRow, standIns := [], harness := (true, "7c7b4e93e6b50ff7b717d571bdec6cd6f87f7997e5e9c5690a76afc2e52f85d9"), looks := true }, kinds := [], alts := [], laidByText := true, laidKinds := [.handle], laidTests := true, laidLooks := .later }
def FnExactFanOfUptoCardSaid : Prop := Claim7.holds Tryd.pinned (.plain (OpenSpec.upto fnExactFanOfSpec)) fnExactFanOfUptoCard

/-- THE SECOND FORM's CARD OF 'laws.FnExactFanResolve'. -/
def fnExactFanResolveUptoCard : Claim7 := { stood := { row := fnExactFanResolveUptoRow, standIns := [], harness := (true, "7c7b4e93e6b50ff7b717d571bdec6cd6f87f7997e5e9c5690a76afc2e52f85d9"), looks := true }, kinds := [], alts := [], laidByText := true, laidKinds := [.handle], laidTests := true, laidLooks := .later }
def FnExactFanResolveUptoCardSaid : Prop := Claim7.holds Tryd.pinned (.plain (OpenSpec.upto fnExactFanResolveSpec)) fnExactFanResolveUptoCard

/-- THE SECOND FORM's CARD OF 'laws.FnExactFanMove'. -/
def fnExactFanMoveUptoCard : Claim7 := { stood := { row := fnExactFanMoveUptoRow, standIns := [], harness := (true, "7c7b4e93e6b50ff7b717d571bdec6cd6f87f7997e5e9c5690a76afc2e52f85d9"), looks := true }, kinds := [], alts := [], laidByText := true, laidKinds := [.handle], laidTests := true, laidLooks := .later }
def FnExactFanMoveUptoCardSaid : Prop := Claim7.holds Tryd.pinned (.plain (OpenSpec.upto fnExactFanMoveSpec)) fnExactFanMoveUptoCard
end Rows
end Go.Proofs.YtfgkpnpgemakdaaDoor
