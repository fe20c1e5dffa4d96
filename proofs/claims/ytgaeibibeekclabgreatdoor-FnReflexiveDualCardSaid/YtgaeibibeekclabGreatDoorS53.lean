import Derived.Test.YtgaeibibeekclabGreatDoorProg
import Derived.Test.YtgaeibibeekclabGreatDoorS01
import Derived.Test.YtgaeibibeekclabGreatDoorS03
import Derived.Test.YtgaeibibeekclabGreatDoorS06
import Derived.Test.YtgaeibibeekclabGreatDoorS07
import Derived.Test.YtgaeibibeekclabGreatDoorS08
import Derived.Test.YtgaeibibeekclabGreatDoorS13
import Derived.Test.YtgaeibibeekclabGreatDoorS14
import Derived.Test.YtgaeibibeekclabGreatDoorS15
import Derived.Test.YtgaeibibeekclabGreatDoorS19
import Derived.WalkKit
import Derived.LaidEql
import Derived.Stop.Asserts
import Derived.RowKitTokens
import Derived.Handy
import Derived.WalkSpells
import Derived.WalkLawsBesides
import Derived.Deep.QuietTactic
import Derived.BigQuiet
import Derived.Lib.Hide
import Derived.Deep.RegionHeld3
import Derived.Deep.DeepCutAuto
import Derived.Deep.AppendLies
import Derived.Laws.OwnMore
import Derived.Laws.MakeOwn
import Derived.OwnWalk
import Derived.Maps.AppendAt
import Derived.RangeFuncBox
import Derived.RegionTactic
import Derived.ChangeAlike
import Derived.RangeFuncNested
import Derived.StillTail
import Derived.OrdersIn
import Derived.AtR
import Derived.RangeFuncBound
import Derived.RangeFuncCalls
import Derived.RangeFuncLeaves
import Derived.Shelf.Abstract
import Derived.OwnWalkIn
import Derived.TacticsInMore
import Derived.LoopNIn
import Derived.LoopIn
import Derived.LaidEqlPtr
import Derived.BigRegion
import Derived.Shelf.SlSortCmp.WholeK
import Derived.Laws.StructEq
import Derived.Laws.IdiomCopy
import Derived.Shelf.SlGeneric
import Derived.Shelf.SlSortCmp.NoneTotal
import Derived.Shelf.SlicesE.Clone
import Derived.Shelf.SlicesQ.Reverse
import Derived.Ground.SlsfProg
import Derived.Ground.SlgnProg
import Derived.Deep.RegionLaw
import Derived.ArgAppend
namespace Go.Proofs.YtgaeibibeekclabGreatDoor
open Go.RowKit
/-- the hull of the corners of a polygon is the polygon, from the least corner on -/
theorem hull_poly {l : List V2} (h : polyB l = true) : hullD l = tidyP l := by
  have hc := poly_conv h
  have h3 := hc.three
  have hK : leastAt l (l.length - 1) < l.length := Nat.lt_of_le_of_lt (leastAt_le _ _) (by omega)
  unfold hullD tidyP
  rw [hull_conv (hc.rot (leastAt l (l.length - 1))) (sortD_asc l) (fun q => ?_) (fun q hq => ?_)]
  · exact range_cyc (by omega)
  · rw [sortD_mem]
    constructor
    · intro hq
      rw [← rot_mem (K := leastAt l (l.length - 1))] at hq
      obtain ⟨j, hj, rfl⟩ := List.mem_iff_getElem.1 hq
      have e : (rot (leastAt l (l.length - 1)) l)[j] = cyc (rot (leastAt l (l.length - 1)) l) j := by rw [cyc_lt hj, List.getElem?_eq_getElem hj]; rfl
      rw [e, cyc_rot (by omega)]
      rw [rot_len] at hj
      exact ⟨j, hj, rfl⟩
    · rintro ⟨j, _, rfl⟩
      exact cyc_mem (by omega) _
  · rw [sortD_mem] at hq
    rw [Nat.add_zero]
    obtain ⟨j, hj, rfl⟩ := List.mem_iff_getElem.1 hq
    have e : l[j] = cyc l j := by rw [cyc_lt hj, List.getElem?_eq_getElem hj]; rfl
    rw [e]
    exact leastAt_min l _ j (by omega)
end Go.Proofs.YtgaeibibeekclabGreatDoor
namespace Go.Proofs.YtgaeibibeekclabGreatDoor
open Go.RowKit
theorem poly_big {l : List V2} (h : polyB l = true) : ∀ x ∈ l, big 400000 x.1 x.2 := by
  intro x hx
  obtain ⟨j, hj, rfl⟩ := List.mem_iff_getElem.1 hx
  have e : l[j] = cyc l j := by rw [cyc_lt hj, List.getElem?_eq_getElem hj]; rfl
  rw [e]
  have := poly_small h j
  unfold big
  omega
set_option maxHeartbeats 4000000 in
theorem polygonTidy_any (v : Value) (l : List V2) (w : World) (hl : ReadsVecs w v l) (hg : EtOk w) :
    Calls Tryz.prog 17 #[v] w (GivesVecsR w (gV (polyB l) (tidyP l)) (polyB l)) := by
  have HC := Lib.hid (polyCheck_any v l w hl)
  have HH := Lib.hid (fun w' (hb : Below w.heap.size w w') (h : polyB l = true) => hullOf_any v l w' (hg.below hb) (hl.below hb) (by have := poly_len h; omega) (poly_big h))
  have HP := Lib.hid (fun (h : polyB l = true) => hull_poly h)
  have HQ := Lib.hid (tidyP_poly l)
  obtain ⟨a, c, rfl, _⟩ := hl
  unfold GivesVecsR
  generalize tidyP l = T at *
  cases hb : polyB l
  · rw [hb] at HC
    clear hb HH HP HQ
    go_enter Tryz.func17, Tryz.ntmps17
    go_wp2_with fail
    refine Calls.mono HC.out ?_
    rintro e w1 ⟨he, hb1⟩
    rcases polyEnd_of he with ⟨h, _⟩ | ⟨_, s, rfl⟩
    · cases h
    clear he
    go_wp2_with fail
    refine Calls.mono (none_hit s _ (hg.below hb1)) ?_
    rintro e w2 ⟨rfl, hb2⟩
    have hb := belowTo hb1 hb2
    clear hb1 hb2
    go_wp2
    go_returns
    exact ⟨_, rfl, VecsR.nil _ _, hb⟩
  · have HH2 : Hid (∀ w', Below w.heap.size w w' → Calls Tryz.prog 46 #[.slice a l.length c] w' (GivesVecsR w' (gV true T) true)) := fun w' hq => by
      have h1 := HP.out hb
      have h2 := HH.out w' hq hb
      rw [h1, HQ.out, hb] at h2
      exact h2
    rw [hb] at HC
    clear hb HH HP HQ
    go_enter Tryz.func17, Tryz.ntmps17
    go_wp2_with fail
    refine Calls.mono HC.out ?_
    rintro e w1 ⟨he, hb1⟩
    rcases polyEnd_of he with ⟨_, rfl⟩ | ⟨h, _⟩
    rotate_left
    · cases h
    clear he
    go_wp2_with fail
    refine Calls.mono (none_nil _) ?_
    rintro e w2 ⟨rfl, hb2⟩
    have hb := belowTo hb1 hb2
    clear hb1 hb2
    have hs := hb.size
    go_wp2_with fail
    refine Calls.mono (HH2.out _ hb) ?_
    rintro e w3 ⟨v3, rfl, I3, hb3⟩
    have HB := Lib.hid (belowTo hb hb3)
    have HI3 := Lib.hid (I3.lower hs)
    clear hb3 I3
    go_wp2
    go_returns
    exact ⟨_, rfl, HI3.out, HB.out⟩
end Go.Proofs.YtgaeibibeekclabGreatDoor
