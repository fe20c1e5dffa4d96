import Derived.Test.YtgaeibibeekclabGreatDoorProg
import Derived.Test.YtgaeibibeekclabGreatDoorS01
import Derived.Test.YtgaeibibeekclabGreatDoorS04
import Derived.Test.YtgaeibibeekclabGreatDoorS06
import Derived.Test.YtgaeibibeekclabGreatDoorS08
import Derived.Test.YtgaeibibeekclabGreatDoorS13
import Derived.Test.YtgaeibibeekclabGreatDoorS14
import Derived.Test.YtgaeibibeekclabGreatDoorS15
import Derived.Test.YtgaeibibeekclabGreatDoorS23
import Derived.Test.YtgaeibibeekclabGreatDoorS51
import Derived.Test.YtgaeibibeekclabGreatDoorS59
import Derived.WalkKit
import Derived.LaidEql
import Derived.Stop.Asserts
import Derived.RowKitTokens
import Derived.Handy
import Derived.WalkSpells
import Derived.WalkLawsBesides
import Derived.Deep.QuietTactic
import Derived.BigQuiet
import Derived.Lib.Hide
import Derived.Deep.RegionHeld3
import Derived.Deep.DeepCutAuto
import Derived.Deep.AppendLies
import Derived.Laws.OwnMore
import Derived.Laws.MakeOwn
import Derived.OwnWalk
import Derived.WalkSmall
import Derived.Maps.AppendAt
import Derived.RangeFuncBox
import Derived.RegionTactic
import Derived.ChangeAlike
import Derived.RangeFuncNested
import Derived.StillTail
import Derived.OrdersIn
import Derived.AtR
import Derived.RangeFuncBound
import Derived.RangeFuncCalls
import Derived.RangeFuncLeaves
import Derived.Shelf.Abstract
import Derived.OwnWalkIn
import Derived.TacticsInMore
import Derived.LoopNIn
import Derived.LoopIn
import Derived.LaidEqlPtr
import Derived.BigRegion
import Derived.Laws.StructEq
import Derived.Shelf.SlSortCmp.WholeK
import Derived.Laws.IdiomCopy
import Derived.Shelf.SlGeneric
import Derived.Shelf.SlSortCmp.NoneTotal
import Derived.Shelf.SlicesE.Clone
import Derived.Shelf.SlicesQ.Reverse
import Derived.Ground.SlsfProg
import Derived.Ground.SlgnProg
import Derived.Deep.RegionLaw
import Derived.ArgAppend
import Derived.StillTailTactics
namespace Go.Proofs.YtgaeibibeekclabGreatDoor
open Go.RowKit
theorem map_cyc {l : List V2} (h0 : 0 < l.length) (F : V2 → V2) (i : Nat) : cyc (l.map F) i = F (cyc l i) := cyc_map F h0 i
end Go.Proofs.YtgaeibibeekclabGreatDoor
namespace Go.Proofs.YtgaeibibeekclabGreatDoor
open Go.RowKit
/-- at least as many vectors on the edge as corners -/
theorem pc_edgeL {l : List V2} (h : polyB l = true) : (l.length : Int) ≤ edgeZ l l.length := by
  have key : ∀ k : Nat, (k : Int) ≤ edgeZ l k := by
    intro k
    induction k with
    | zero => exact Int.le_refl _
    | succ k ih =>
      have := (prim_parts (way_nz' h k)).1
      show ((k + 1 : Nat) : Int) ≤ edgeZ l k + gcdZ (wayZ l k).1 (wayZ l k).2
      omega
  exact key _
theorem pc_cnt0 (l : List V2) : 0 ≤ cntZ l 1 := by
  unfold cntZ
  generalize (mxI (xsZ l) l.length - mnI (xsZ l) l.length + 1).toNat = k
  induction k with
  | zero => exact Int.le_refl _
  | succ k ih =>
    rw [sumI_succ]
    have := (col_bnd (cyc l) l.length 1 (mnI (xsZ l) l.length + k) (mnI (ysZ l) l.length) (mxI (ysZ l) l.length - mnI (ysZ l) l.length + 1).toNat).1
    omega
/-- Pick, and what follows -/
theorem pc_pick {l : List V2} (h : polyB l = true) : areaZ l = 2 * innerZ l + edgeZ l l.length - 2 ∧ 0 ≤ innerZ l ∧ (l.length : Int) ≤ edgeZ l l.length ∧ 0 < areaZ l := by
  obtain ⟨a, b⟩ := cnt_pick h
  obtain ⟨c, d⟩ := inner_cnt h
  have e := pc_cnt0 l
  have f := pc_edgeL h
  have g := poly_len h
  omega
end Go.Proofs.YtgaeibibeekclabGreatDoor
