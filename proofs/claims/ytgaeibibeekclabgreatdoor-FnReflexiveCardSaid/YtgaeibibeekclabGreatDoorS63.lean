import Derived.Test.YtgaeibibeekclabGreatDoorProg
import Derived.Test.YtgaeibibeekclabGreatDoorS01
import Derived.Test.YtgaeibibeekclabGreatDoorS04
import Derived.Test.YtgaeibibeekclabGreatDoorS06
import Derived.Test.YtgaeibibeekclabGreatDoorS07
import Derived.Test.YtgaeibibeekclabGreatDoorS08
import Derived.Test.YtgaeibibeekclabGreatDoorS13
import Derived.Test.YtgaeibibeekclabGreatDoorS14
import Derived.Test.YtgaeibibeekclabGreatDoorS19
import Derived.Test.YtgaeibibeekclabGreatDoorS21
import Derived.Test.YtgaeibibeekclabGreatDoorS22
import Derived.Test.YtgaeibibeekclabGreatDoorS23
import Derived.Test.YtgaeibibeekclabGreatDoorS24
import Derived.Test.YtgaeibibeekclabGreatDoorS25
import Derived.Test.YtgaeibibeekclabGreatDoorS43
import Derived.Test.YtgaeibibeekclabGreatDoorS58
import Derived.Test.YtgaeibibeekclabGreatDoorS59
import Derived.Test.YtgaeibibeekclabGreatDoorS62
import Derived.WalkKit
import Derived.LaidEql
import Derived.Stop.Asserts
import Derived.RowKitTokens
import Derived.Handy
import Derived.WalkSpells
import Derived.WalkLawsBesides
import Derived.Deep.QuietTactic
import Derived.BigQuiet
import Derived.Lib.Hide
import Derived.Deep.RegionHeld3
import Derived.Deep.DeepCutAuto
import Derived.Deep.AppendLies
import Derived.Laws.OwnMore
import Derived.Laws.MakeOwn
import Derived.OwnWalk
import Derived.WalkSmall
import Derived.Maps.AppendAt
import Derived.RangeFuncBox
import Derived.RegionTactic
import Derived.ChangeAlike
import Derived.RangeFuncNested
import Derived.StillTail
import Derived.OrdersIn
import Derived.AtR
import Derived.RangeFuncBound
import Derived.RangeFuncCalls
import Derived.RangeFuncLeaves
import Derived.Shelf.Abstract
import Derived.OwnWalkIn
import Derived.TacticsInMore
import Derived.LoopNIn
import Derived.LoopIn
import Derived.LaidEqlPtr
import Derived.BigRegion
import Derived.Laws.StructEq
import Derived.Shelf.SlSortCmp.WholeK
import Derived.Laws.IdiomCopy
import Derived.Shelf.SlGeneric
import Derived.Shelf.SlSortCmp.NoneTotal
import Derived.Shelf.SlicesE.Clone
import Derived.Shelf.SlicesQ.Reverse
import Derived.Ground.SlsfProg
import Derived.Ground.SlgnProg
import Derived.Deep.RegionLaw
import Derived.ArgAppend
import Derived.StillTailTactics
import Derived.Laws.EntriesVeiled
import Derived.Deep.RegionHeld
import Derived.Lib.MinMax
namespace Go.Proofs.YtgaeibibeekclabGreatDoor
open Go.RowKit
theorem pe_wayF {l : List V2} (h0 : 0 < l.length) (a b c d : Int) (i : Nat) : wayZ (l.map (moveF a b c d)) i = moveF a b c d (wayZ l i) := by
  unfold wayZ
  rw [map_cyc h0, map_cyc h0]
  unfold moveF moveX
  refine Prod.ext ?_ ?_ <;> dsimp only <;> grind
theorem pe_dm {a b c d : Int} (hM : matB a b c d = true) : detM a b c d = 1 ∨ detM a b c d = -1 := by
  have := (mat_in hM).2
  unfold detOk at this
  simpa using this
theorem pe_mb {a b c d p q : Int} (k : matB a b c d = true) :
    moveX (detM a b c d * d) (-(detM a b c d * b)) (moveX a b p q) (moveX c d p q) = p ∧ moveX (-(detM a b c d * c)) (detM a b c d * a) (moveX a b p q) (moveX c d p q) = q := by
  have hd : a * d - b * c = detM a b c d := rfl
  rcases pe_dm k with h1 | h1
  all_goals
    rw [h1] at hd ⊢
    unfold moveX
    refine ⟨?_, ?_⟩ <;> grind
theorem pe_gd (x y : Int) : gcdZ x y ∣ x ∧ gcdZ x y ∣ y := ⟨by unfold gcdZ; exact Int.ofNat_dvd_left.2 (Nat.gcd_dvd_left _ _), by unfold gcdZ; exact Int.ofNat_dvd_left.2 (Nat.gcd_dvd_right _ _)⟩
theorem pe_dm2 {k a b x y : Int} (h1 : k ∣ x) (h2 : k ∣ y) : k ∣ moveX a b x y := Int.dvd_add (Int.dvd_trans h1 (Int.dvd_mul_left _ _)) (Int.dvd_trans h2 (Int.dvd_mul_left _ _))
theorem pe_gm {a b c d p q : Int} (k : matB a b c d = true) : gcdZ (moveX a b p q) (moveX c d p q) = gcdZ p q := by
  obtain ⟨b1, b2⟩ := pe_mb (p := p) (q := q) k
  obtain ⟨e1, e2⟩ := pe_gd p q
  obtain ⟨e3, e4⟩ := pe_gd (moveX a b p q) (moveX c d p q)
  refine Int.dvd_antisymm (gcdZ_nonneg _ _) (gcdZ_nonneg _ _) (Int.dvd_coe_gcd ?_ ?_) (Int.dvd_coe_gcd (pe_dm2 e1 e2) (pe_dm2 e1 e2))
  · have := pe_dm2 (a := detM a b c d * d) (b := -(detM a b c d * b)) e3 e4
    rwa [b1] at this
  · have := pe_dm2 (a := -(detM a b c d * c)) (b := detM a b c d * a) e3 e4
    rwa [b2] at this
end Go.Proofs.YtgaeibibeekclabGreatDoor
namespace Go.Proofs.YtgaeibibeekclabGreatDoor
open Go.RowKit
theorem pf_refl {l : List V2} (h : reflB l = true) : innerZ l = 1 := by
  obtain ⟨hp, hr⟩ := refl_in h
  have h3 := poly_len hp
  have pk := (pc_pick hp).1
  have e : areaZ l = edgeZ l l.length := by
    unfold areaZ edgeZ
    rw [sumZ_I, sumZ_I]
    exact sumI_congr (fun i _ => allR_at hr (by omega) i)
  omega
end Go.Proofs.YtgaeibibeekclabGreatDoor
namespace Go.Proofs.YtgaeibibeekclabGreatDoor
open Go.RowKit
theorem pm_refl {l : List V2} (h : reflB l = true) {a b c d : Int} (hM : matB a b c d = true) (hd : 0 < detM a b c d) (h' : polyB (moveL a b c d l) = true) : reflB (tidyP (moveL a b c d l)) = true := by
  obtain ⟨hp, hr⟩ := refl_in h
  have l3 := poly_len hp
  have h0 : 0 < l.length := by omega
  have e : moveL a b c d l = l.map (moveF a b c d) := by unfold moveL; rw [if_pos hd]
  have d1 : detM a b c d = 1 := by rcases pe_dm hM with q | q <;> omega
  unfold reflB
  rw [tidyP_poly, h', Bool.true_and]
  refine allR_of (fun i _ => ?_)
  unfold reflK
  refine decide_eq_true ?_
  have hK := leastK_le (moveL a b c d l)
  unfold tidyP
  generalize leastAt (moveL a b c d l) ((moveL a b c d l).length - 1) = K at *
  rw [way_rot hK, cyc_rot hK, cyc_rot hK, e, pe_wayF h0, map_cyc h0, map_cyc h0]
  have x := allR_at hr h0 (K + i)
  have y : gcdZ (moveF a b c d (wayZ l (K + i))).1 (moveF a b c d (wayZ l (K + i))).2 = gcdZ (wayZ l (K + i)).1 (wayZ l (K + i)).2 := pe_gm hM
  have z : detV (moveF a b c d (cyc l (K + i))) (moveF a b c d (cyc l (K + (i + 1)))) = detM a b c d * detV (cyc l (K + i)) (cyc l (K + (i + 1))) := by
    unfold detV detZ moveF moveX detM
    dsimp only
    grind
  rw [y, z, d1, Int.one_mul, ← x]
  rfl
end Go.Proofs.YtgaeibibeekclabGreatDoor
namespace Go.Proofs.YtgaeibibeekclabGreatDoor
open Go.RowKit
set_option maxRecDepth 100000 in
set_option maxHeartbeats 16000000 in
theorem fnReflexive_any (a : Option Addr) (len cap : Nat) (w : World) (h : Bytes w a len cap) (hg : EtOk w) :
    Calls Tryz.prog 3 #[.slice a len cap] w fun e w' => e = .returned (.bool true) ∧ Below w.heap.size w w' := by
  by_cases hlen : len ≤ 1048576
  case neg =>
    have j1 : (1048576 : Int) < (len : Int) := by omega
    clear h hg
    go_enter Tryz.func3, Tryz.ntmps3
    go_wp2
    go_returns
    exact ⟨rfl, by go_grown⟩
  case pos =>
  have j1 : (len : Int) ≤ 1048576 := by omega
  have HO := Lib.hid (drawReflexiveIn_any w a len cap h)
  clear h
  go_enter Tryz.func3, Tryz.ntmps3
  go_wp2_with fail
  refine Calls.mono HO.out ?_
  rintro e w1 ⟨v, l, rfl, hV, h2, h20, hb1⟩
  have HG := Lib.hid (hg.below hb1)
  have Hf := Lib.hid hV
  have HB : Hid (Below w.heap.size w w1) := hb1
  clear hb1 HO hg hV
  cases hk : reflB l
  · have C1 : Hid (∀ (w' : World) (v0 : Value), ReadsVecs w' v0 (l) → EtOk w' → Calls Tryz.prog 9 #[v0] w' (fun e w'' => e = .returned (.bool (false)) ∧ Below w'.heap.size w' w'')) := fun w' v0 h0 hg' => by
      have h := reflexiveIn_any v0 l w' h0 hg'
      rw [hk] at h
      exact h
    have C2 : Hid (∀ (w' : World) (v0 : Value), ReadsVecs w' v0 (l) → EtOk w' → Calls Tryz.prog 10 #[v0] w' (fun e w'' => e = .returned (.bool (false)) ∧ Below w'.heap.size w' w'')) := fun w' v0 h0 hg' => by
      have h := specReflexiveIn_any v0 l w' h0
      rw [hk] at h
      exact h
    clear hk
    go_wp2_with fail
    refine Calls.mono (C1.out _ _ (Hf.out.below (by go_grown)) (HG.out.below (by go_grown))) ?_
    rintro e w2 ⟨rfl, hb2⟩
    have hB2 := belowTo (a := w1) (by go_grown) hb2
    replace Hf := Lib.hid (Hf.out.below hB2)
    replace HG := Lib.hid (HG.out.below hB2)
    replace HB := Lib.hid (belowTo HB.out hB2)
    clear hb2 hB2
    go_wp2_with fail
    refine Calls.mono (C2.out _ _ (Hf.out.below (by go_grown)) (HG.out.below (by go_grown))) ?_
    rintro e w3 ⟨rfl, hb3⟩
    have hB3 := belowTo (a := w2) (by go_grown) hb3
    replace Hf := Lib.hid (Hf.out.below hB3)
    replace HG := Lib.hid (HG.out.below hB3)
    replace HB := Lib.hid (belowTo HB.out hB3)
    clear hb3 hB3
    go_wp2
    go_returns
    exact ⟨rfl, HB.out⟩
  · have C1 : Hid (∀ (w' : World) (v0 : Value), ReadsVecs w' v0 (l) → EtOk w' → Calls Tryz.prog 9 #[v0] w' (fun e w'' => e = .returned (.bool (true)) ∧ Below w'.heap.size w' w'')) := fun w' v0 h0 hg' => by
      have h := reflexiveIn_any v0 l w' h0 hg'
      rw [hk] at h
      exact h
    have C2 : Hid (∀ (w' : World) (v0 : Value), ReadsVecs w' v0 (l) → EtOk w' → Calls Tryz.prog 10 #[v0] w' (fun e w'' => e = .returned (.bool (true)) ∧ Below w'.heap.size w' w'')) := fun w' v0 h0 hg' => by
      have h := specReflexiveIn_any v0 l w' h0
      rw [hk] at h
      exact h
    have q1 := pf_refl hk
    have hp := (refl_in hk).1
    have C3 : Hid (∀ (w' : World) (v0 : Value), ReadsVecs w' v0 (l) → EtOk w' → Calls Tryz.prog 11 #[v0] w' (fun e w'' => e = .returned (.tuple #[.int .i64 (1), .bool (true)]) ∧ Below w'.heap.size w' w'')) := fun w' v0 h0 hg' => by
      have h := polygonInner_any v0 (l) w' h0 hg'
      rw [hp, show gate true (innerZ l) = innerZ l from rfl, q1] at h
      exact h
    have hM : matB 1 1 0 1 = true := by decide
    have HB1 : MoveB l 1 1 0 1 = true := by unfold MoveB; rw [hp]; rfl
    cases hk2 : polyB (moveL 1 1 0 1 l)
    · have C4 : Hid (∀ (w' : World) (v0 : Value), ReadsVecs w' v0 (l) → EtOk w' → Calls Tryz.prog 12 #[v0, .agg #[.int .i64 (1), .int .i64 (1), .int .i64 (0), .int .i64 (1)]] w' (GivesVecsR w' ([]) (false))) := fun w' v0 h0 hg' => by
        have h := polygonMove_any v0 (l) 1 1 0 1 w' h0 hg'
        unfold MoveL at h; rw [HB1, hk2] at h
        exact h
      clear hk hk2 q1 hp hM HB1
      go_wp2_with fail
      refine Calls.mono (C1.out _ _ (Hf.out.below (by go_grown)) (HG.out.below (by go_grown))) ?_
      rintro e w2 ⟨rfl, hb2⟩
      have hB2 := belowTo (a := w1) (by go_grown) hb2
      replace Hf := Lib.hid (Hf.out.below hB2)
      replace HG := Lib.hid (HG.out.below hB2)
      replace HB := Lib.hid (belowTo HB.out hB2)
      clear hb2 hB2
      go_wp2_with fail
      refine Calls.mono (C2.out _ _ (Hf.out.below (by go_grown)) (HG.out.below (by go_grown))) ?_
      rintro e w3 ⟨rfl, hb3⟩
      have hB3 := belowTo (a := w2) (by go_grown) hb3
      replace Hf := Lib.hid (Hf.out.below hB3)
      replace HG := Lib.hid (HG.out.below hB3)
      replace HB := Lib.hid (belowTo HB.out hB3)
      clear hb3 hB3
      go_wp2_with fail
      refine Calls.mono (C3.out _ _ (Hf.out.below (by go_grown)) (HG.out.below (by go_grown))) ?_
      rintro e w4 ⟨rfl, hb4⟩
      have hB4 := belowTo (a := w3) (by go_grown) hb4
      replace Hf := Lib.hid (Hf.out.below hB4)
      replace HG := Lib.hid (HG.out.below hB4)
      replace HB := Lib.hid (belowTo HB.out hB4)
      clear hb4 hB4
      go_wp2_with fail
      refine Calls.mono (C4.out _ _ (Hf.out.below (by go_grown)) (HG.out.below (by go_grown))) ?_
      rintro e w5 ⟨v5, rfl, hI5, hb5⟩
      have hB5 := belowTo (a := w4) (by go_grown) hb5
      replace Hf := Lib.hid (Hf.out.below hB5)
      replace HG := Lib.hid (HG.out.below hB5)
      replace HB := Lib.hid (belowTo HB.out hB5)
      clear hb5 hB5
      have Hx := Lib.hid (VecsR.reads hI5 (by simp))
      clear hI5
      go_wp2
      go_returns
      exact ⟨rfl, HB.out⟩
    · have C4 : Hid (∀ (w' : World) (v0 : Value), ReadsVecs w' v0 (l) → EtOk w' → Calls Tryz.prog 12 #[v0, .agg #[.int .i64 (1), .int .i64 (1), .int .i64 (0), .int .i64 (1)]] w' (GivesVecsR w' (tidyP (moveL 1 1 0 1 l)) (true))) := fun w' v0 h0 hg' => by
        have h := polygonMove_any v0 (l) 1 1 0 1 w' h0 hg'
        unfold MoveL at h; rw [HB1, hk2] at h
        exact h
      have q2 := pm_refl hk hM (by decide) hk2
      have C5 : Hid (∀ (w' : World) (v0 : Value), ReadsVecs w' v0 (tidyP (moveL 1 1 0 1 l)) → EtOk w' → Calls Tryz.prog 9 #[v0] w' (fun e w'' => e = .returned (.bool (true)) ∧ Below w'.heap.size w' w'')) := fun w' v0 h0 hg' => by
        have h := reflexiveIn_any v0 (tidyP (moveL 1 1 0 1 l)) w' h0 hg'
        rw [q2] at h
        exact h
      have HL : Hid ((tidyP (moveL 1 1 0 1 l)).length ≤ 1000) := by show _ ≤ _; rw [tidyP_len, moveL_len]; omega
      generalize tidyP (moveL 1 1 0 1 l) = m at *
      clear q2
      clear hk hk2 q1 hp hM HB1
      go_wp2_with fail
      refine Calls.mono (C1.out _ _ (Hf.out.below (by go_grown)) (HG.out.below (by go_grown))) ?_
      rintro e w2 ⟨rfl, hb2⟩
      have hB2 := belowTo (a := w1) (by go_grown) hb2
      replace Hf := Lib.hid (Hf.out.below hB2)
      replace HG := Lib.hid (HG.out.below hB2)
      replace HB := Lib.hid (belowTo HB.out hB2)
      clear hb2 hB2
      go_wp2_with fail
      refine Calls.mono (C2.out _ _ (Hf.out.below (by go_grown)) (HG.out.below (by go_grown))) ?_
      rintro e w3 ⟨rfl, hb3⟩
      have hB3 := belowTo (a := w2) (by go_grown) hb3
      replace Hf := Lib.hid (Hf.out.below hB3)
      replace HG := Lib.hid (HG.out.below hB3)
      replace HB := Lib.hid (belowTo HB.out hB3)
      clear hb3 hB3
      go_wp2_with fail
      refine Calls.mono (C3.out _ _ (Hf.out.below (by go_grown)) (HG.out.below (by go_grown))) ?_
      rintro e w4 ⟨rfl, hb4⟩
      have hB4 := belowTo (a := w3) (by go_grown) hb4
      replace Hf := Lib.hid (Hf.out.below hB4)
      replace HG := Lib.hid (HG.out.below hB4)
      replace HB := Lib.hid (belowTo HB.out hB4)
      clear hb4 hB4
      go_wp2_with fail
      refine Calls.mono (C4.out _ _ (Hf.out.below (by go_grown)) (HG.out.below (by go_grown))) ?_
      rintro e w5 ⟨v5, rfl, hI5, hb5⟩
      have hB5 := belowTo (a := w4) (by go_grown) hb5
      replace Hf := Lib.hid (Hf.out.below hB5)
      replace HG := Lib.hid (HG.out.below hB5)
      replace HB := Lib.hid (belowTo HB.out hB5)
      clear hb5 hB5
      have Hx := Lib.hid (VecsR.reads hI5 (by have := HL.out; omega))
      clear hI5
      go_wp2_with fail
      refine Calls.mono (C5.out _ _ (Hx.out.below (by go_grown)) (HG.out.below (by go_grown))) ?_
      rintro e w6 ⟨rfl, hb6⟩
      have hB6 := belowTo (a := w5) (by go_grown) hb6
      replace Hf := Lib.hid (Hf.out.below hB6)
      replace Hx := Lib.hid (Hx.out.below hB6)
      replace HG := Lib.hid (HG.out.below hB6)
      replace HB := Lib.hid (belowTo HB.out hB6)
      clear hb6 hB6
      go_wp2
      go_returns
      exact ⟨rfl, HB.out⟩
end Go.Proofs.YtgaeibibeekclabGreatDoor
