import Derived.Test.YtgaeibibeekclabGreatDoorProg
import Derived.Test.YtgaeibibeekclabGreatDoorS01
import Derived.Test.YtgaeibibeekclabGreatDoorS04
import Derived.Test.YtgaeibibeekclabGreatDoorS06
import Derived.Test.YtgaeibibeekclabGreatDoorS07
import Derived.Test.YtgaeibibeekclabGreatDoorS08
import Derived.Test.YtgaeibibeekclabGreatDoorS13
import Derived.Test.YtgaeibibeekclabGreatDoorS14
import Derived.Test.YtgaeibibeekclabGreatDoorS15
import Derived.Test.YtgaeibibeekclabGreatDoorS19
import Derived.Test.YtgaeibibeekclabGreatDoorS21
import Derived.Test.YtgaeibibeekclabGreatDoorS22
import Derived.Test.YtgaeibibeekclabGreatDoorS23
import Derived.Test.YtgaeibibeekclabGreatDoorS24
import Derived.Test.YtgaeibibeekclabGreatDoorS25
import Derived.Test.YtgaeibibeekclabGreatDoorS27
import Derived.Test.YtgaeibibeekclabGreatDoorS55
import Derived.Test.YtgaeibibeekclabGreatDoorS60
import Derived.WalkKit
import Derived.LaidEql
import Derived.Stop.Asserts
import Derived.RowKitTokens
import Derived.Handy
import Derived.WalkSpells
import Derived.WalkLawsBesides
import Derived.Deep.QuietTactic
import Derived.BigQuiet
import Derived.Lib.Hide
import Derived.Deep.RegionHeld3
import Derived.Deep.DeepCutAuto
import Derived.Deep.AppendLies
import Derived.Laws.OwnMore
import Derived.Laws.MakeOwn
import Derived.OwnWalk
import Derived.WalkSmall
import Derived.Maps.AppendAt
import Derived.RangeFuncBox
import Derived.RegionTactic
import Derived.ChangeAlike
import Derived.RangeFuncNested
import Derived.StillTail
import Derived.OrdersIn
import Derived.AtR
import Derived.RangeFuncBound
import Derived.RangeFuncCalls
import Derived.RangeFuncLeaves
import Derived.Shelf.Abstract
import Derived.OwnWalkIn
import Derived.TacticsInMore
import Derived.LoopNIn
import Derived.LoopIn
import Derived.LaidEqlPtr
import Derived.BigRegion
import Derived.Laws.StructEq
import Derived.Shelf.SlSortCmp.WholeK
import Derived.Laws.IdiomCopy
import Derived.Shelf.SlGeneric
import Derived.Shelf.SlSortCmp.NoneTotal
import Derived.Shelf.SlicesE.Clone
import Derived.Shelf.SlicesQ.Reverse
import Derived.Ground.SlsfProg
import Derived.Ground.SlgnProg
import Derived.Deep.RegionLaw
import Derived.ArgAppend
import Derived.StillTailTactics
import Derived.Laws.EntriesVeiled
import Derived.Deep.RegionHeld
import Derived.Lib.MinMax
namespace Go.Proofs.YtgaeibibeekclabGreatDoor
open Go.RowKit
theorem dul_len (l : List V2) : (dulL l).length ≤ 576460752303423488 := gV_len (fun h => by
  unfold dulB at h
  rw [Bool.and_eq_true] at h
  have := poly_len h.2
  rw [tidyP_len]
  omega)
set_option maxHeartbeats 4000000 in
theorem specReflexiveTwelve_any (v : Value) (l : List V2) (w : World) (h : ReadsVecs w v l) :
    Calls Tryz.prog 20 #[v] w fun e w' => e = .returned (.tuple #[.int .i64 (gate (dulB l) (edgeZ l l.length)), .int .i64 (gate (dulB l) (edgeZ (dulL l) (dulL l).length)), .bool (dulB l)]) ∧ Below w.heap.size w w' := by
  have HC := Lib.hid (specReflexiveDual_any v l w h)
  have HE := Lib.hid (fun w' (hb : Below w.heap.size w w') (hd : dulB l = true) => l6gEdge_any v l w' (h.below hb) (refl_in (by unfold dulB at hd; rw [Bool.and_eq_true] at hd; exact hd.1)).1)
  have HF := Lib.hid (fun v' b' w' (hI : Vecs w' b' v' (dulL l)) (hd : dulB l = true) => l6gEdge_any v' (dulL l) w' (hI.reads (dul_len l)) (by unfold dulL; rw [hd]; show polyB (tidyP (nrmL l)) = true; rw [tidyP_poly]; unfold dulB at hd; rw [Bool.and_eq_true] at hd; exact hd.2))
  obtain ⟨a, c, rfl, _⟩ := h
  generalize edgeZ l l.length = x at *
  generalize edgeZ (dulL l) (dulL l).length = y at *
  cases hd : dulB l
  · rw [hd] at HC
    clear hd HE HF
    go_enter Tryz.func20, Tryz.ntmps20
    go_wp2_with fail
    refine Calls.mono HC.out ?_
    rintro e w1 ⟨v1, rfl, I1, hb1⟩
    clear I1
    go_wp2
    go_returns
    exact ⟨rfl, hb1⟩
  · rw [hd] at HC
    have HE2 := Lib.hid (fun w' hb => HE.out w' hb hd)
    have HF2 := Lib.hid (fun v' b' w' hI => HF.out v' b' w' hI hd)
    clear hd HE HF
    go_enter Tryz.func20, Tryz.ntmps20
    go_wp2_with fail
    refine Calls.mono HC.out ?_
    rintro e w1 ⟨v1, rfl, I1, hb1⟩
    have HI1 := Lib.hid I1
    clear I1
    go_wp2_with fail
    refine Calls.mono (HE2.out _ hb1) ?_
    rintro e w2 ⟨rfl, hb2⟩
    have HF3 := Lib.hid (HF2.out v1 _ w2 (HI1.out.below hb2))
    have hb := belowTo hb1 hb2
    clear hb2 hb1 HI1
    go_wp2_with fail
    refine Calls.mono HF3.out ?_
    rintro e w3 ⟨rfl, hb3⟩
    replace hb := belowTo hb hb3
    clear hb3
    go_wp2
    go_returns
    exact ⟨rfl, hb⟩
end Go.Proofs.YtgaeibibeekclabGreatDoor
namespace Go.Proofs.YtgaeibibeekclabGreatDoor
open Go.RowKit
theorem pn_area {l : List V2} (h : reflB l = true) : areaZ l = edgeZ l l.length := by
  have h3 := pn_len h
  unfold areaZ edgeZ
  rw [sumZ_I, sumZ_I]
  exact sumI_congr (fun i _ => allR_at (refl_in h).2 (by omega) i)
theorem pn_twelve {l : List V2} (h : dulB l = true) : edgeZ l l.length + edgeZ (dulL l) (dulL l).length = 12 ∧ areaZ l = edgeZ l l.length ∧ areaZ (dulL l) = edgeZ (dulL l) (dulL l).length := by
  obtain ⟨hr, hp, e⟩ := pn_dul h
  refine ⟨?_, pn_area hr, pn_area (pn_refl h)⟩
  have t := edg_twelve hr
  rw [pn_edg] at t
  have e2 : edgeZ (dulL l) (dulL l).length = sumI (fun i => dtV (stepV l i) (stepV l (i + 1))) l.length := by
    rw [e, pc_edgeT]
    unfold edgeZ
    rw [sumZ_I, nrm_len]
    exact sumI_congr (fun i _ => pn_gcd hr i)
  rw [e2]
  exact t
end Go.Proofs.YtgaeibibeekclabGreatDoor
namespace Go.Proofs.YtgaeibibeekclabGreatDoor
open Go.RowKit
theorem dulL_poly {l : List V2} (hd : dulB l = true) : polyB (dulL l) = true := by
  unfold dulL
  rw [hd]
  show polyB (tidyP (nrmL l)) = true
  rw [tidyP_poly]
  unfold dulB at hd
  rw [Bool.and_eq_true] at hd
  exact hd.2
set_option maxHeartbeats 8000000 in
theorem reflexiveTwelve_any (v : Value) (l : List V2) (w : World) (h : ReadsVecs w v l) (hg : EtOk w) :
    Calls Tryz.prog 19 #[v] w fun e w' => e = .returned (.tuple #[.int .i64 (gate (dulB l) (edgeZ l l.length)), .int .i64 (gate (dulB l) (edgeZ (dulL l) (dulL l).length)), .bool (dulB l)]) ∧ Below w.heap.size w w' := by
  have HC := Lib.hid (reflexiveOf_any v l w h hg)
  have HD := Lib.hid (fun b w' (hc : w'.cell? ⟨b, 0, none⟩ = some (.iface 44 v)) (hb : Below w.heap.size w w') hr => dualOf1_any b v l w' hc (h.below hb) hr (hg.below hb))
  have HE := Lib.hid (fun w' (hb : Below w.heap.size w w') (hr : reflB l = true) => edge_any v l w' (h.below hb) (refl_in hr).1)
  have HF := Lib.hid (fun v' b' w' (hI : VecsR w' b' v' (dulL l)) (hd : dulB l = true) => edge_any v' (dulL l) w' (hI.reads (dul_len l)) (dulL_poly hd))
  obtain ⟨a, c, rfl, _⟩ := h
  have HZ : Hid (reflB l = false → dulB l = false) := fun h => by unfold dulB; rw [h]; rfl
  generalize edgeZ l l.length = x at *
  generalize edgeZ (dulL l) (dulL l).length = y at *
  generalize dulL l = D at *
  generalize hB : dulB l = B at *
  clear hB
  generalize reflB l = R at *
  go_enter Tryz.func19, Tryz.ntmps19
  go_wp2_with fail
  refine Calls.mono HC.out ?_
  rintro e w1 ⟨⟨rfl, s, rfl⟩ | ⟨rfl, b, _, hbl, hc, rfl⟩, hb1⟩
  · have hs1 := hb1.size
    obtain rfl := HZ.out rfl
    clear HC HD HZ HE HF
    go_wp2_with fail
    refine Calls.mono (none_hit s _ (hg.below (by go_grown))) ?_
    rintro e w2 ⟨rfl, hb2⟩
    have hB : Below w.heap.size w w2 := belowTo (by go_grown) hb2
    clear hb2
    go_wp2
    go_returns
    exact ⟨rfl, hB⟩
  · have hs1 := hb1.size
    clear HC HZ
    go_wp2_with fail
    refine Calls.mono (none_nil _) ?_
    rintro e w2 ⟨rfl, hb2⟩
    have hB : Below w.heap.size w w2 := belowTo (by go_grown) hb2
    have hc2 : w2.cell? ⟨b, 0, none⟩ = some (.iface 44 (.slice a l.length c)) := (hb2.cell (p := ⟨b, 0, none⟩) (by simp; omega)).trans ((World.cell?_alloc_lt _ _ ⟨b, _, none⟩ (by simp; exact hbl)).trans hc)
    have q0 : w2.cell? ⟨w1.heap.size, 0, none⟩ = some (.slice a l.length c) := (hb2.cell (p := ⟨w1.heap.size, 0, none⟩) (by first | assumption | (go_size; done) | (simp; omega) | (simp only [World.size_alloc]; omega))).trans (by first | assumption | (go_cell; done) | (go_simp; done) | simp [*]); have qf0 : w2.frozen? ⟨w1.heap.size, 0, none⟩ = false := (hb2.frozen (p := ⟨w1.heap.size, 0, none⟩) (by first | assumption | (go_size; done) | (simp; omega) | (simp only [World.size_alloc]; omega))).trans (by first | assumption | (go_cell; done) | (go_simp; done) | simp [*]); have q1 : w2.cell? ⟨w1.heap.size, 1, none⟩ = some (.func (.func 134) #[] #[.pointer (some ⟨b, 0, none⟩)]) := (hb2.cell (p := ⟨w1.heap.size, 1, none⟩) (by first | assumption | (go_size; done) | (simp; omega) | (simp only [World.size_alloc]; omega))).trans (by first | assumption | (go_cell; done) | (go_simp; done) | simp [*]); have qf1 : w2.frozen? ⟨w1.heap.size, 1, none⟩ = false := (hb2.frozen (p := ⟨w1.heap.size, 1, none⟩) (by first | assumption | (go_size; done) | (simp; omega) | (simp only [World.size_alloc]; omega))).trans (by first | assumption | (go_cell; done) | (go_simp; done) | simp [*])
    have hs2 : w1.heap.size < w2.heap.size := Nat.lt_of_lt_of_le (by simp) hb2.size
    have HD2 := Lib.hid (HD.out b w2 hc2 hB (by simp))
    clear hb2 HD
    go_wp2_with fail
    refine Calls.mono HD2.out ?_
    rintro e w3 ⟨v3, rfl, I3, hb3⟩
    have hb := belowTo hB hb3
    cases B
    · clear I3 HD2 HE HF hb3
      go_wp2
      go_returns
      exact ⟨rfl, hb⟩
    · have HF3 := Lib.hid (fun w4 (hb4 : Below w3.heap.size w3 w4) => HF.out v3 _ w4 (I3.below hb4) (by simp))
      have z0 : w3.cell? ⟨w1.heap.size, 0, none⟩ = some (.slice a l.length c) := (hb3.cell (p := ⟨w1.heap.size, 0, none⟩) hs2).trans q0
      clear I3 HD2 HF hb3 q0 q1 qf0 qf1
      go_wp2_with fail
      refine Calls.mono (HE.out _ hb (by simp)) ?_
      rintro e w4 ⟨rfl, hb4⟩
      have HF4 := Lib.hid (HF3.out _ hb4)
      replace hb := belowTo hb hb4
      clear hb4 HF3 HE z0
      go_wp2_with fail
      refine Calls.mono HF4.out ?_
      rintro e w5 ⟨rfl, hb5⟩
      replace hb := belowTo hb hb5
      clear hb5 HF4
      go_wp2
      go_returns
      exact ⟨rfl, hb⟩
end Go.Proofs.YtgaeibibeekclabGreatDoor
namespace Go.Proofs.YtgaeibibeekclabGreatDoor
open Go.RowKit
set_option maxRecDepth 100000 in
set_option maxHeartbeats 16000000 in
theorem fnTwelve_any (a : Option Addr) (len cap : Nat) (w : World) (h : Bytes w a len cap) (hg : EtOk w) :
    Calls Tryz.prog 5 #[.slice a len cap] w fun e w' => e = .returned (.bool true) ∧ Below w.heap.size w w' := by
  by_cases hlen : len ≤ 1048576
  case neg =>
    have j1 : (1048576 : Int) < (len : Int) := by omega
    clear h hg
    go_enter Tryz.func5, Tryz.ntmps5
    go_wp2
    go_returns
    exact ⟨rfl, by go_grown⟩
  case pos =>
  have j1 : (len : Int) ≤ 1048576 := by omega
  have HO := Lib.hid (drawReflexiveTwelve_any w a len cap h)
  clear h
  go_enter Tryz.func5, Tryz.ntmps5
  go_wp2_with fail
  refine Calls.mono HO.out ?_
  rintro e w1 ⟨v, l, rfl, hV, h2, h20, hb1⟩
  have HG := Lib.hid (hg.below hb1)
  have Hf := Lib.hid hV
  have HB : Hid (Below w.heap.size w w1) := hb1
  clear hb1 HO hg hV
  cases hk : dulB l
  · have C1 : Hid (∀ (w' : World) (v0 : Value), ReadsVecs w' v0 (l) → EtOk w' → Calls Tryz.prog 19 #[v0] w' (fun e w'' => e = .returned (.tuple #[.int .i64 (0), .int .i64 (0), .bool false]) ∧ Below w'.heap.size w' w'')) := fun w' v0 h0 hg' => by
      have h := reflexiveTwelve_any v0 l w' h0 hg'
      rw [hk] at h
      exact h
    have C2 : Hid (∀ (w' : World) (v0 : Value), ReadsVecs w' v0 (l) → EtOk w' → Calls Tryz.prog 20 #[v0] w' (fun e w'' => e = .returned (.tuple #[.int .i64 (0), .int .i64 (0), .bool false]) ∧ Below w'.heap.size w' w'')) := fun w' v0 h0 hg' => by
      have h := specReflexiveTwelve_any v0 l w' h0
      rw [hk] at h
      exact h
    clear hk
    go_wp2_with fail
    refine Calls.mono (C1.out _ _ (Hf.out.below (by go_grown)) (HG.out.below (by go_grown))) ?_
    rintro e w2 ⟨rfl, hb2⟩
    have hB2 := belowTo (a := w1) (by go_grown) hb2
    replace Hf := Lib.hid (Hf.out.below hB2)
    replace HG := Lib.hid (HG.out.below hB2)
    replace HB := Lib.hid (belowTo HB.out hB2)
    clear hb2 hB2
    go_wp2_with fail
    refine Calls.mono (C2.out _ _ (Hf.out.below (by go_grown)) (HG.out.below (by go_grown))) ?_
    rintro e w3 ⟨rfl, hb3⟩
    have hB3 := belowTo (a := w2) (by go_grown) hb3
    replace Hf := Lib.hid (Hf.out.below hB3)
    replace HG := Lib.hid (HG.out.below hB3)
    replace HB := Lib.hid (belowTo HB.out hB3)
    clear hb3 hB3
    go_wp2
    go_returns
    exact ⟨rfl, HB.out⟩
  · have C1 : Hid (∀ (w' : World) (v0 : Value), ReadsVecs w' v0 (l) → EtOk w' → Calls Tryz.prog 19 #[v0] w' (fun e w'' => e = .returned (.tuple #[.int .i64 (edgeZ l l.length), .int .i64 (edgeZ (dulL l) (dulL l).length), .bool true]) ∧ Below w'.heap.size w' w'')) := fun w' v0 h0 hg' => by
      have h := reflexiveTwelve_any v0 l w' h0 hg'
      rw [hk] at h
      exact h
    have C2 : Hid (∀ (w' : World) (v0 : Value), ReadsVecs w' v0 (l) → EtOk w' → Calls Tryz.prog 20 #[v0] w' (fun e w'' => e = .returned (.tuple #[.int .i64 (edgeZ l l.length), .int .i64 (edgeZ (dulL l) (dulL l).length), .bool true]) ∧ Below w'.heap.size w' w'')) := fun w' v0 h0 hg' => by
      have h := specReflexiveTwelve_any v0 l w' h0
      rw [hk] at h
      exact h
    obtain ⟨q1, q2, q3⟩ := pn_twelve hk
    have q4 := (refl_in (pn_dul hk).1).1
    have q5 := (refl_in (pn_refl hk)).1
    have q6 := pn_len2 hk
    have b1 := (poly_nums q4).2
    have b2 := (poly_nums q5).2
    have C3 : Hid (∀ (w' : World) (v0 : Value), ReadsVecs w' v0 (l) → EtOk w' → Calls Tryz.prog 14 #[v0] w' (GivesVecsR w' (dulL l) (true))) := fun w' v0 h0 hg' => by
      have h := reflexiveDual_any v0 l w' h0 hg'
      rw [hk] at h
      exact h
    have C4 : Hid (∀ (w' : World) (v0 : Value), ReadsVecs w' v0 (l) → EtOk w' → Calls Tryz.prog 21 #[v0] w' (fun e w'' => e = .returned (.tuple #[.int .i64 (edgeZ l l.length), .bool (true)]) ∧ Below w'.heap.size w' w'')) := fun w' v0 h0 hg' => by
      have h := polygonArea_any v0 (l) w' h0 hg'
      rw [q4, show gate true (areaZ l) = areaZ l from rfl, q2] at h
      exact h
    have C5 : Hid (∀ (w' : World) (v0 : Value), ReadsVecs w' v0 (dulL l) → EtOk w' → Calls Tryz.prog 21 #[v0] w' (fun e w'' => e = .returned (.tuple #[.int .i64 (edgeZ (dulL l) (dulL l).length), .bool (true)]) ∧ Below w'.heap.size w' w'')) := fun w' v0 h0 hg' => by
      have h := polygonArea_any v0 (dulL l) w' h0 hg'
      rw [q5, show gate true (areaZ (dulL l)) = areaZ (dulL l) from rfl, q3] at h
      exact h
    have HL : Hid ((dulL l).length ≤ 1000) := by show _ ≤ _; omega
    generalize edgeZ l l.length = E at *
    generalize edgeZ (dulL l) (dulL l).length = F at *
    generalize dulL l = m at *
    have qs : IntKind.i64.wrap (E + F) = 12 := by rw [IntKind.wrap_i64]; omega
    clear hk q1 q2 q3 q4 q5 q6 b1 b2
    go_wp2_with fail
    refine Calls.mono (C1.out _ _ (Hf.out.below (by go_grown)) (HG.out.below (by go_grown))) ?_
    rintro e w2 ⟨rfl, hb2⟩
    have hB2 := belowTo (a := w1) (by go_grown) hb2
    replace Hf := Lib.hid (Hf.out.below hB2)
    replace HG := Lib.hid (HG.out.below hB2)
    replace HB := Lib.hid (belowTo HB.out hB2)
    clear hb2 hB2
    go_wp2_with fail
    refine Calls.mono (C2.out _ _ (Hf.out.below (by go_grown)) (HG.out.below (by go_grown))) ?_
    rintro e w3 ⟨rfl, hb3⟩
    have hB3 := belowTo (a := w2) (by go_grown) hb3
    replace Hf := Lib.hid (Hf.out.below hB3)
    replace HG := Lib.hid (HG.out.below hB3)
    replace HB := Lib.hid (belowTo HB.out hB3)
    clear hb3 hB3
    go_wp2_with fail
    refine Calls.mono (C3.out _ _ (Hf.out.below (by go_grown)) (HG.out.below (by go_grown))) ?_
    rintro e w4 ⟨v4, rfl, hI4, hb4⟩
    have hB4 := belowTo (a := w3) (by go_grown) hb4
    replace Hf := Lib.hid (Hf.out.below hB4)
    replace HG := Lib.hid (HG.out.below hB4)
    replace HB := Lib.hid (belowTo HB.out hB4)
    clear hb4 hB4
    have Ho := Lib.hid (VecsR.reads hI4 (by have := HL.out; omega))
    clear hI4
    go_wp2_with fail
    refine Calls.mono (C4.out _ _ (Hf.out.below (by go_grown)) (HG.out.below (by go_grown))) ?_
    rintro e w5 ⟨rfl, hb5⟩
    have hB5 := belowTo (a := w4) (by go_grown) hb5
    replace Hf := Lib.hid (Hf.out.below hB5)
    replace Ho := Lib.hid (Ho.out.below hB5)
    replace HG := Lib.hid (HG.out.below hB5)
    replace HB := Lib.hid (belowTo HB.out hB5)
    clear hb5 hB5
    go_wp2_with fail
    refine Calls.mono (C5.out _ _ (Ho.out.below (by go_grown)) (HG.out.below (by go_grown))) ?_
    rintro e w6 ⟨rfl, hb6⟩
    have hB6 := belowTo (a := w5) (by go_grown) hb6
    replace Hf := Lib.hid (Hf.out.below hB6)
    replace Ho := Lib.hid (Ho.out.below hB6)
    replace HG := Lib.hid (HG.out.below hB6)
    replace HB := Lib.hid (belowTo HB.out hB6)
    clear hb6 hB6
    go_wp2
    go_returns
    exact ⟨rfl, HB.out⟩
end Go.Proofs.YtgaeibibeekclabGreatDoor
