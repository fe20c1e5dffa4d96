import Derived.Test.YtgaeibibeekclabGreatDoorProg
import Derived.Test.YtgaeibibeekclabGreatDoorS01
import Derived.Test.YtgaeibibeekclabGreatDoorS03
import Derived.Test.YtgaeibibeekclabGreatDoorS04
import Derived.Test.YtgaeibibeekclabGreatDoorS06
import Derived.Test.YtgaeibibeekclabGreatDoorS07
import Derived.Test.YtgaeibibeekclabGreatDoorS14
import Derived.Test.YtgaeibibeekclabGreatDoorS15
import Derived.Test.YtgaeibibeekclabGreatDoorS23
import Derived.WalkKit
import Derived.LaidEql
import Derived.Stop.Asserts
import Derived.RowKitTokens
import Derived.Handy
import Derived.WalkSpells
import Derived.WalkLawsBesides
import Derived.Deep.QuietTactic
import Derived.BigQuiet
import Derived.Lib.Hide
import Derived.Deep.RegionHeld3
import Derived.Deep.DeepCutAuto
import Derived.Deep.AppendLies
import Derived.Laws.OwnMore
import Derived.Laws.MakeOwn
import Derived.OwnWalk
import Derived.WalkSmall
import Derived.Maps.AppendAt
import Derived.RangeFuncBox
import Derived.RegionTactic
import Derived.ChangeAlike
import Derived.RangeFuncNested
import Derived.StillTail
import Derived.OrdersIn
import Derived.AtR
import Derived.RangeFuncBound
import Derived.RangeFuncCalls
import Derived.RangeFuncLeaves
import Derived.Shelf.Abstract
import Derived.OwnWalkIn
import Derived.TacticsInMore
import Derived.LoopNIn
import Derived.LoopIn
import Derived.LaidEqlPtr
import Derived.BigRegion
import Derived.Laws.StructEq
import Derived.Shelf.SlSortCmp.WholeK
import Derived.Laws.IdiomCopy
import Derived.StillTailTactics
namespace Go.Proofs.YtgaeibibeekclabGreatDoor
open Go.RowKit
theorem nrm_snoc (l : List V2) (k : Nat) : (List.range (k + 1)).map (nrmZ l) = (List.range k).map (nrmZ l) ++ [nrmZ l k] := by simp [List.range_succ]
set_option maxRecDepth 100000 in
set_option maxHeartbeats 16000000 in
theorem normals_any (v : Value) (l : List V2) (w : World) (h : ReadsVecs w v l) (hp : polyB l = true) :
    Calls Tryz.prog 184 #[v] w (GivesVecs w (nrmL l)) := by
  obtain ⟨i0, hi, hz0, hz1, hz2⟩ := info_parts infoVec
  have h30 := poly_len hp
  have h0 : 0 < l.length := by omega
  have HWy := Lib.hid (fun w' (hb : Below w.heap.size w w') => ways_any v l w' (h.below hb) h0 (by omega) (fun i => by have := poly_small hp i; unfold big; omega))
  have HWc := Lib.hid (fun i => cyc_ways h0 i)
  have HWv := Lib.hid (fun i => way_vec hp i)
  have HWn := Lib.hid (fun i => way_nz hp i)
  have HWl := Lib.hid (waysL_len l)
  have HX := Lib.hid (fun k => nrm_snoc l k)
  have HNz : Hid (∀ k, nrmZ l k = (-((wayZ l k).2.tdiv (gcdZ (wayZ l k).1 (wayZ l k).2)), (wayZ l k).1.tdiv (gcdZ (wayZ l k).1 (wayZ l k).2))) := fun _ => rfl
  have HZ : Hid (nrmL l = (List.range l.length).map (nrmZ l)) := rfl
  obtain ⟨a, c, rfl, _⟩ := h
  clear hp
  go_enter Tryz.func184, Tryz.ntmps184
  go_wp2_with fail
  refine Calls.mono (HWy.out _ (by go_grown)) ?_
  rintro e W1 ⟨v1, rfl, hI, hb1⟩
  have HB1 := Lib.hid (show Below w.heap.size w W1 from belowTo (by go_grown) hb1)
  obtain ⟨bw, ow, wc, rfl, _, _, hbw, hws⟩ := (hI.reads (by rw [waysL_len]; omega)).open (by rw [waysL_len]; exact h0)
  have HWS := Lib.hid hws
  clear hb1 hI hws HWy
  have hsW := HB1.out.size
  have hwl := HWl.out
  generalize hn : (waysL l).length = n at *
  subst hwl
  clear hn
  go_wp2
  go_loopw [3, 11] (fun s3 s wr => ∃ k : Nat, k ≤ l.length ∧ s = .int .i64 k ∧ Hid (Vecs wr W1.heap.size s3 ((List.range k).map (nrmZ l))) ∧ Below W1.heap.size W1 wr) (fun _ s _ => l.length - (intOf s).toNat)
  case atStart => exact ⟨0, Nat.zero_le _, rfl, Vecs.nil _ _, Below.refl _ _⟩
  case round =>
    obtain ⟨k, hk, rfl, HI, hB⟩ := hrel
    have i1 : (0 : Int) ≤ (k : Int) := by omega
    by_cases hlt : k < l.length
    · have i2 : (k : Int) < (l.length : Int) := by omega
      obtain ⟨d0, d1⟩ := HWS.out wr hB k hlt
      rw [HWc.out k] at d0 d1
      have hv := HWv.out k
      have hnz := HWn.out k
      have HXk := Lib.hid (HX.out k)
      rw [HNz.out k] at HXk
      have HP := Lib.hid (fun w' => primitive_any _ _ w' hv hnz)
      obtain ⟨b1, b2⟩ := szs hv
      have q1 := tdiv_bd (m := gcdZ (wayZ l k).1 (wayZ l k).2) b1
      have q2 := tdiv_bd (m := gcdZ (wayZ l k).1 (wayZ l k).2) b2
      have hkl : ((List.range k).map (nrmZ l)).length = k := by simp
      generalize (wayZ l k).1.tdiv (gcdZ (wayZ l k).1 (wayZ l k).2) = px at *
      generalize (wayZ l k).2.tdiv (gcdZ (wayZ l k).1 (wayZ l k).2) = py at *
      generalize gcdZ (wayZ l k).1 (wayZ l k).2 = g at *
      generalize wayZ l k = U at *
      obtain ⟨u1, u2⟩ := U
      dsimp only at d0 d1 HP
      have HT := Lib.hid (fun w' => turn_any px py w' (vec_of ⟨q1, q2⟩))
      have hs := hB.size
      clear HWc HWv HWn HX HNz HWS b1 b2 q1 q2 hv hnz
      go_wp2_with fail
      refine Calls.mono (HP.out _) ?_
      rintro e w2 ⟨rfl, hb2⟩
      have hb3 : Below wr.heap.size wr w2 := belowTo (by go_grown) hb2
      have HI2 := Lib.hid (HI.out.below hb3)
      have hB2 := hB.trans (hb3.mono hs)
      clear hb2 hb3 HI d0 d1 HP
      go_wp2_with fail
      refine Calls.mono (HT.out _) ?_
      rintro e w3 ⟨rfl, hb3⟩
      have hb4 : Below w2.heap.size w2 w3 := belowTo (by go_grown) hb3
      have hB3 := belowTo hB2 hb4
      have hown := HI2.out.below hb4
      unfold Vecs VRow at hown
      rw [hkl] at hown
      have hbs := hB3.size
      clear hb3 hb4 HT HI2 hB2
      go_wp2_with (at_builtin; refine wpList_append_own_at _ rfl _ _ 23 rfl W1.heap.size 55 i0 (.agg #[.int .i64 (0), .int .i64 (0)]) 2 16 Tryz.underlying23 hi hz0 hz1 hz2 rfl (by decide) _ _ _ rfl (hown.alloc _) ⟨_, 0, none⟩ 1 1 [.int .i64 (-py), .int .i64 px] rfl rfl ?c1 ?c2 ?c3 ?c4 ?c5 ?_)
      case c1 =>
        intro j u hj
        match j, hj with
        | 0, hj => simp at hj; subst hj; simp [Addr.add]
        | 1, hj => simp at hj; subst hj; simp [Addr.add]
      case c2 => intro u hu; simp at hu; rcases hu with rfl | rfl <;> rfl
      case c3 => unfold maxLen; omega
      case c4 => omega
      case c5 => simp; omega
      intro v' w4 hown' hgrow _ _
      have hB5 := (hB3.alloc hbs _).grown hgrow (by simp; omega) (fun k hk => (hown.lt k hk).1)
      have HVv := Lib.hid (Vecs.snoc (l := (List.range k).map (nrmZ l)) hkl.symm hown')
      rw [← HXk.out] at HVv
      clear hown' hgrow hown hB3 hkl hbs
      go_wp2
      go_roundw
      case rel => exact ⟨k + 1, by omega, by go_num, HVv, hB5⟩
      case measure => simp [intOf]; omega
    · obtain rfl : k = l.length := by omega
      have i2 : ¬ ((l.length : Nat) : Int) < (l.length : Int) := by omega
      have HI2 := Lib.hid (HI.out.lower hsW)
      rw [← HZ.out] at HI2
      clear HI
      go_wp2
      go_returns
      exact ⟨_, rfl, HI2.out, HB1.out.trans (hB.mono hsW)⟩
end Go.Proofs.YtgaeibibeekclabGreatDoor
