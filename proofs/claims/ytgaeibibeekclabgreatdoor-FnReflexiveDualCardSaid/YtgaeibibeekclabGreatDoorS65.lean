import Derived.Test.YtgaeibibeekclabGreatDoorProg
import Derived.Test.YtgaeibibeekclabGreatDoorS01
import Derived.Test.YtgaeibibeekclabGreatDoorS04
import Derived.Test.YtgaeibibeekclabGreatDoorS06
import Derived.Test.YtgaeibibeekclabGreatDoorS07
import Derived.Test.YtgaeibibeekclabGreatDoorS08
import Derived.Test.YtgaeibibeekclabGreatDoorS13
import Derived.Test.YtgaeibibeekclabGreatDoorS14
import Derived.Test.YtgaeibibeekclabGreatDoorS15
import Derived.Test.YtgaeibibeekclabGreatDoorS19
import Derived.Test.YtgaeibibeekclabGreatDoorS21
import Derived.Test.YtgaeibibeekclabGreatDoorS22
import Derived.Test.YtgaeibibeekclabGreatDoorS24
import Derived.Test.YtgaeibibeekclabGreatDoorS25
import Derived.Test.YtgaeibibeekclabGreatDoorS27
import Derived.Test.YtgaeibibeekclabGreatDoorS53
import Derived.Test.YtgaeibibeekclabGreatDoorS54
import Derived.WalkKit
import Derived.LaidEql
import Derived.Stop.Asserts
import Derived.RowKitTokens
import Derived.Handy
import Derived.WalkSpells
import Derived.WalkLawsBesides
import Derived.Deep.QuietTactic
import Derived.BigQuiet
import Derived.Lib.Hide
import Derived.Deep.RegionHeld3
import Derived.Deep.DeepCutAuto
import Derived.Deep.AppendLies
import Derived.Laws.OwnMore
import Derived.Laws.MakeOwn
import Derived.OwnWalk
import Derived.WalkSmall
import Derived.Maps.AppendAt
import Derived.RangeFuncBox
import Derived.RegionTactic
import Derived.ChangeAlike
import Derived.RangeFuncNested
import Derived.StillTail
import Derived.OrdersIn
import Derived.AtR
import Derived.RangeFuncBound
import Derived.RangeFuncCalls
import Derived.RangeFuncLeaves
import Derived.Shelf.Abstract
import Derived.OwnWalkIn
import Derived.TacticsInMore
import Derived.LoopNIn
import Derived.LoopIn
import Derived.LaidEqlPtr
import Derived.BigRegion
import Derived.Laws.StructEq
import Derived.Shelf.SlSortCmp.WholeK
import Derived.Laws.IdiomCopy
import Derived.Shelf.SlGeneric
import Derived.Shelf.SlSortCmp.NoneTotal
import Derived.Shelf.SlicesE.Clone
import Derived.Shelf.SlicesQ.Reverse
import Derived.Ground.SlsfProg
import Derived.Ground.SlgnProg
import Derived.Deep.RegionLaw
import Derived.ArgAppend
import Derived.StillTailTactics
import Derived.Laws.EntriesVeiled
import Derived.Deep.RegionHeld
import Derived.Lib.MinMax
namespace Go.Proofs.YtgaeibibeekclabGreatDoor
open Go.RowKit
theorem pn_nrm {l : List V2} (h : reflB l = true) : nrmL (nrmL l) = rot 1 l := by
  have h3 := pn_len h
  rw [← range_cyc (l := l) (K := 1) (by omega)]
  show (List.range (nrmL l).length).map (nrmZ (nrmL l)) = _
  rw [nrm_len]
  refine List.map_congr_left (fun i _ => ?_)
  have hc : cZ l i ≠ 0 := by have : 0 < cZ l i := (refl_V h).cpos i; omega
  unfold nrmZ primW
  rw [pn_gcd h, pn_way h]
  dsimp only
  rw [Int.mul_tdiv_cancel_left _ hc, Int.mul_tdiv_cancel_left _ hc, Int.neg_neg, Nat.add_comm 1 i]
theorem pn_tidyR {l : List V2} {K : Nat} (h : polyB l = true) (hK : K ≤ l.length) : tidyP (rot K l) = tidyP l := by
  rw [← hull_poly h, ← hull_poly (by rw [poly_rot hK]; exact h : polyB (rot K l) = true)]
  exact hullD_sameA (fun q => rot_mem q)
theorem pn_dual {l : List V2} (h : dulB l = true) : dulB (dulL l) = true ∧ dulL (dulL l) = tidyP l := by
  obtain ⟨hr, hp, e⟩ := pn_dul h
  have h3 := pn_len hr
  have hK := leastK_le (nrmL l)
  have n1 : nrmL (dulL l) = rot (leastAt (nrmL l) ((nrmL l).length - 1)) (rot 1 l) := by
    rw [e]
    unfold tidyP
    rw [pc_nrmR (by rw [nrm_len]; omega) hK, pn_nrm hr]
  rw [nrm_len] at hK
  have p1 : polyB (rot 1 l) = true := by rw [poly_rot (by omega)]; exact (refl_in hr).1
  have hK' : leastAt (nrmL l) ((nrmL l).length - 1) ≤ (rot 1 l).length := by rw [rot_len, nrm_len]; exact hK
  have d1 : dulB (dulL l) = true := by
    unfold dulB
    rw [pn_refl h, n1, poly_rot hK', p1]
    rfl
  refine ⟨d1, ?_⟩
  rw [(pn_dul d1).2.2, n1, pn_tidyR p1 hK', pn_tidyR (refl_in hr).1 (by omega)]
end Go.Proofs.YtgaeibibeekclabGreatDoor
namespace Go.Proofs.YtgaeibibeekclabGreatDoor
open Go.RowKit
set_option maxRecDepth 100000 in
set_option maxHeartbeats 16000000 in
theorem fnReflexiveDual_any (a : Option Addr) (len cap : Nat) (w : World) (h : Bytes w a len cap) (hg : EtOk w) :
    Calls Tryz.prog 4 #[.slice a len cap] w fun e w' => e = .returned (.bool true) ∧ Below w.heap.size w w' := by
  by_cases hlen : len ≤ 1048576
  case neg =>
    have j1 : (1048576 : Int) < (len : Int) := by omega
    clear h hg
    go_enter Tryz.func4, Tryz.ntmps4
    go_wp2
    go_returns
    exact ⟨rfl, by go_grown⟩
  case pos =>
  have j1 : (len : Int) ≤ 1048576 := by omega
  have HO := Lib.hid (drawReflexiveDual_any w a len cap h)
  clear h
  go_enter Tryz.func4, Tryz.ntmps4
  go_wp2_with fail
  refine Calls.mono HO.out ?_
  rintro e w1 ⟨v, l, rfl, hV, h2, h20, hb1⟩
  have HG := Lib.hid (hg.below hb1)
  have Hf := Lib.hid hV
  have HB : Hid (Below w.heap.size w w1) := hb1
  clear hb1 HO hg hV
  cases hk : dulB l
  · have C1 : Hid (∀ (w' : World) (v0 : Value), ReadsVecs w' v0 (l) → EtOk w' → Calls Tryz.prog 14 #[v0] w' (GivesVecsR w' ([]) (false))) := fun w' v0 h0 hg' => by
      have h := reflexiveDual_any v0 l w' h0 hg'
      unfold dulL at h; rw [hk] at h
      exact h
    have C2 : Hid (∀ (w' : World) (v0 : Value), ReadsVecs w' v0 (l) → EtOk w' → Calls Tryz.prog 15 #[v0] w' (GivesVecsOk w' ([]) (false))) := fun w' v0 h0 hg' => by
      have h := specReflexiveDual_any v0 l w' h0
      unfold dulL at h; rw [hk] at h
      exact h
    clear hk
    go_wp2_with fail
    refine Calls.mono (C1.out _ _ (Hf.out.below (by go_grown)) (HG.out.below (by go_grown))) ?_
    rintro e w2 ⟨v2, rfl, hI2, hb2⟩
    have hB2 := belowTo (a := w1) (by go_grown) hb2
    replace Hf := Lib.hid (Hf.out.below hB2)
    replace HG := Lib.hid (HG.out.below hB2)
    replace HB := Lib.hid (belowTo HB.out hB2)
    clear hb2 hB2
    have Ho1 := Lib.hid (VecsR.reads hI2 (by simp))
    clear hI2
    go_wp2_with fail
    refine Calls.mono (C2.out _ _ (Hf.out.below (by go_grown)) (HG.out.below (by go_grown))) ?_
    rintro e w3 ⟨v3, rfl, hI3, hb3⟩
    have hB3 := belowTo (a := w2) (by go_grown) hb3
    replace Hf := Lib.hid (Hf.out.below hB3)
    replace Ho1 := Lib.hid (Ho1.out.below hB3)
    replace HG := Lib.hid (HG.out.below hB3)
    replace HB := Lib.hid (belowTo HB.out hB3)
    clear hb3 hB3
    have Ho2 := Lib.hid (Vecs.reads hI3 (by simp))
    clear hI3
    go_wp2_with fail
    refine Calls.mono (sameVecs_eq _ _ _ _ (Ho1.out.below (by go_grown)) (Ho2.out.below (by go_grown))) ?_
    rintro e w4 ⟨rfl, hb4⟩
    have hB4 := belowTo (a := w3) (by go_grown) hb4
    replace Hf := Lib.hid (Hf.out.below hB4)
    replace Ho1 := Lib.hid (Ho1.out.below hB4)
    replace Ho2 := Lib.hid (Ho2.out.below hB4)
    replace HG := Lib.hid (HG.out.below hB4)
    replace HB := Lib.hid (belowTo HB.out hB4)
    clear hb4 hB4
    go_wp2_with fail
    refine Calls.mono (sameVecs_eq _ _ _ _ (Ho1.out.below (by go_grown)) (Ho2.out.below (by go_grown))) ?_
    rintro e w5 ⟨rfl, hb5⟩
    have hB5 := belowTo (a := w4) (by go_grown) hb5
    replace Hf := Lib.hid (Hf.out.below hB5)
    replace Ho1 := Lib.hid (Ho1.out.below hB5)
    replace Ho2 := Lib.hid (Ho2.out.below hB5)
    replace HG := Lib.hid (HG.out.below hB5)
    replace HB := Lib.hid (belowTo HB.out hB5)
    clear hb5 hB5
    go_wp2
    go_returns
    exact ⟨rfl, HB.out⟩
  · have C1 : Hid (∀ (w' : World) (v0 : Value), ReadsVecs w' v0 (l) → EtOk w' → Calls Tryz.prog 14 #[v0] w' (GivesVecsR w' (tidyP (nrmL l)) (true))) := fun w' v0 h0 hg' => by
      have h := reflexiveDual_any v0 l w' h0 hg'
      unfold dulL at h; rw [hk] at h
      exact h
    have C2 : Hid (∀ (w' : World) (v0 : Value), ReadsVecs w' v0 (l) → EtOk w' → Calls Tryz.prog 15 #[v0] w' (GivesVecsOk w' (tidyP (nrmL l)) (true))) := fun w' v0 h0 hg' => by
      have h := specReflexiveDual_any v0 l w' h0
      unfold dulL at h; rw [hk] at h
      exact h
    obtain ⟨q1, q2⟩ := pn_dual hk
    have q3 := pn_refl hk
    have q4 := pn_len2 hk
    obtain ⟨hr, -, e0⟩ := pn_dul hk
    rw [e0] at q1 q2 q3 q4
    have hp := (refl_in hr).1
    have C3 : Hid (∀ (w' : World) (v0 : Value), ReadsVecs w' v0 (tidyP (nrmL l)) → EtOk w' → Calls Tryz.prog 14 #[v0] w' (GivesVecsR w' (tidyP l) (true))) := fun w' v0 h0 hg' => by
      have h := reflexiveDual_any v0 (tidyP (nrmL l)) w' h0 hg'
      rw [q2, q1] at h
      exact h
    have C4 : Hid (∀ (w' : World) (v0 : Value), ReadsVecs w' v0 (l) → EtOk w' → Calls Tryz.prog 17 #[v0] w' (GivesVecsR w' (tidyP l) (true))) := fun w' v0 h0 hg' => by
      have h := polygonTidy_any v0 (l) w' h0 hg'
      rw [hp] at h
      exact h
    have C5 : Hid (∀ (w' : World) (v0 : Value), ReadsVecs w' v0 (tidyP (nrmL l)) → EtOk w' → Calls Tryz.prog 9 #[v0] w' (fun e w'' => e = .returned (.bool (true)) ∧ Below w'.heap.size w' w'')) := fun w' v0 h0 hg' => by
      have h := reflexiveIn_any v0 (tidyP (nrmL l)) w' h0 hg'
      rw [q3] at h
      exact h
    have HL : Hid ((tidyP (nrmL l)).length = l.length) := q4
    have HL2 : Hid ((tidyP l).length ≤ 1000) := by show _ ≤ _; rw [tidyP_len]; omega
    generalize tidyP (nrmL l) = m at *
    generalize tidyP l = t at *
    clear hk q1 q2 q3 q4 e0 hr hp
    go_wp2_with fail
    refine Calls.mono (C1.out _ _ (Hf.out.below (by go_grown)) (HG.out.below (by go_grown))) ?_
    rintro e w2 ⟨v2, rfl, hI2, hb2⟩
    have hB2 := belowTo (a := w1) (by go_grown) hb2
    replace Hf := Lib.hid (Hf.out.below hB2)
    replace HG := Lib.hid (HG.out.below hB2)
    replace HB := Lib.hid (belowTo HB.out hB2)
    clear hb2 hB2
    have Ho := Lib.hid (VecsR.reads hI2 (by have := HL.out; omega))
    clear hI2
    go_wp2_with fail
    refine Calls.mono (C2.out _ _ (Hf.out.below (by go_grown)) (HG.out.below (by go_grown))) ?_
    rintro e w3 ⟨v3, rfl, hI3, hb3⟩
    have hB3 := belowTo (a := w2) (by go_grown) hb3
    replace Hf := Lib.hid (Hf.out.below hB3)
    replace Ho := Lib.hid (Ho.out.below hB3)
    replace HG := Lib.hid (HG.out.below hB3)
    replace HB := Lib.hid (belowTo HB.out hB3)
    clear hb3 hB3
    have Ho2 := Lib.hid (Vecs.reads hI3 (by have := HL.out; omega))
    clear hI3
    go_wp2_with fail
    refine Calls.mono (sameVecs_eq _ _ _ _ (Ho.out.below (by go_grown)) (Ho2.out.below (by go_grown))) ?_
    rintro e w4 ⟨rfl, hb4⟩
    have hB4 := belowTo (a := w3) (by go_grown) hb4
    replace Hf := Lib.hid (Hf.out.below hB4)
    replace Ho := Lib.hid (Ho.out.below hB4)
    replace Ho2 := Lib.hid (Ho2.out.below hB4)
    replace HG := Lib.hid (HG.out.below hB4)
    replace HB := Lib.hid (belowTo HB.out hB4)
    clear hb4 hB4
    clear Ho2
    go_wp2_with fail
    refine Calls.mono (C3.out _ _ (Ho.out.below (by go_grown)) (HG.out.below (by go_grown))) ?_
    rintro e w5 ⟨v5, rfl, hI5, hb5⟩
    have hB5 := belowTo (a := w4) (by go_grown) hb5
    replace Hf := Lib.hid (Hf.out.below hB5)
    replace Ho := Lib.hid (Ho.out.below hB5)
    replace HG := Lib.hid (HG.out.below hB5)
    replace HB := Lib.hid (belowTo HB.out hB5)
    clear hb5 hB5
    have Hx := Lib.hid (VecsR.reads hI5 (by have := HL2.out; omega))
    clear hI5
    go_wp2_with fail
    refine Calls.mono (C4.out _ _ (Hf.out.below (by go_grown)) (HG.out.below (by go_grown))) ?_
    rintro e w6 ⟨v6, rfl, hI6, hb6⟩
    have hB6 := belowTo (a := w5) (by go_grown) hb6
    replace Hf := Lib.hid (Hf.out.below hB6)
    replace Ho := Lib.hid (Ho.out.below hB6)
    replace Hx := Lib.hid (Hx.out.below hB6)
    replace HG := Lib.hid (HG.out.below hB6)
    replace HB := Lib.hid (belowTo HB.out hB6)
    clear hb6 hB6
    have Hy := Lib.hid (VecsR.reads hI6 (by have := HL2.out; omega))
    clear hI6
    go_wp2_with fail
    refine Calls.mono (sameVecs_eq _ _ _ _ (Hx.out.below (by go_grown)) (Hy.out.below (by go_grown))) ?_
    rintro e w7 ⟨rfl, hb7⟩
    have hB7 := belowTo (a := w6) (by go_grown) hb7
    replace Hf := Lib.hid (Hf.out.below hB7)
    replace Ho := Lib.hid (Ho.out.below hB7)
    replace Hx := Lib.hid (Hx.out.below hB7)
    replace Hy := Lib.hid (Hy.out.below hB7)
    replace HG := Lib.hid (HG.out.below hB7)
    replace HB := Lib.hid (belowTo HB.out hB7)
    clear hb7 hB7
    go_wp2_with fail
    refine Calls.mono (C5.out _ _ (Ho.out.below (by go_grown)) (HG.out.below (by go_grown))) ?_
    rintro e w8 ⟨rfl, hb8⟩
    have hB8 := belowTo (a := w7) (by go_grown) hb8
    replace Hf := Lib.hid (Hf.out.below hB8)
    replace Ho := Lib.hid (Ho.out.below hB8)
    replace Hx := Lib.hid (Hx.out.below hB8)
    replace Hy := Lib.hid (Hy.out.below hB8)
    replace HG := Lib.hid (HG.out.below hB8)
    replace HB := Lib.hid (belowTo HB.out hB8)
    clear hb8 hB8
    obtain ⟨va, vc, rfl, _⟩ := Hf.out
    obtain ⟨oa, oc, rfl, -⟩ := Ho.out
    have hlen := HL.out
    have hl : (m.length : Int) = (l.length : Int) := by omega
    clear hlen
    go_wp2
    go_returns
    exact ⟨rfl, HB.out⟩
end Go.Proofs.YtgaeibibeekclabGreatDoor
