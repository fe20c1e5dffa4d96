import Derived.Test.YtgaeibibeekclabGreatDoorProg
import Derived.Test.YtgaeibibeekclabGreatDoorS01
import Derived.Test.YtgaeibibeekclabGreatDoorS04
import Derived.Test.YtgaeibibeekclabGreatDoorS06
import Derived.Test.YtgaeibibeekclabGreatDoorS07
import Derived.Test.YtgaeibibeekclabGreatDoorS08
import Derived.Test.YtgaeibibeekclabGreatDoorS14
import Derived.Test.YtgaeibibeekclabGreatDoorS23
import Derived.Test.YtgaeibibeekclabGreatDoorS30
import Derived.Test.YtgaeibibeekclabGreatDoorS31
import Derived.Test.YtgaeibibeekclabGreatDoorS33
import Derived.Test.YtgaeibibeekclabGreatDoorS34
import Derived.Test.YtgaeibibeekclabGreatDoorS40
import Derived.WalkKit
import Derived.LaidEql
import Derived.Stop.Asserts
import Derived.RowKitTokens
import Derived.Handy
import Derived.WalkSpells
import Derived.WalkLawsBesides
import Derived.Deep.QuietTactic
import Derived.BigQuiet
import Derived.Lib.Hide
import Derived.Deep.RegionHeld3
import Derived.Deep.DeepCutAuto
import Derived.Deep.AppendLies
import Derived.Laws.OwnMore
import Derived.Laws.MakeOwn
import Derived.OwnWalk
import Derived.WalkSmall
import Derived.Maps.AppendAt
import Derived.RangeFuncBox
import Derived.RegionTactic
import Derived.ChangeAlike
import Derived.RangeFuncNested
import Derived.StillTail
import Derived.OrdersIn
import Derived.AtR
import Derived.RangeFuncBound
import Derived.RangeFuncCalls
import Derived.RangeFuncLeaves
import Derived.Shelf.Abstract
import Derived.OwnWalkIn
import Derived.TacticsInMore
import Derived.LoopNIn
import Derived.LoopIn
import Derived.LaidEqlPtr
import Derived.BigRegion
import Derived.Laws.StructEq
import Derived.StillTailTactics
namespace Go.Proofs.YtgaeibibeekclabGreatDoor
open Go.RowKit
set_option maxHeartbeats 4000000 in
theorem polygonEdge_any (v : Value) (l : List V2) (w : World) (h : ReadsVecs w v l) (hg : EtOk w) :
    Calls Tryz.prog 25 #[v] w fun e w' => e = .returned (.tuple #[.int .i64 (gate (polyB l) (edgeZ l l.length)), .bool (polyB l)]) ∧ Below w.heap.size w w' := by
  have HC := Lib.hid (polyCheck_any v l w h)
  have H0 := Lib.hid (fun w' (hb : Below w.heap.size w w') (hp : polyB l = true) => edge_any v l w' (h.below hb) hp)
  obtain ⟨a, c, rfl, _⟩ := h
  generalize edgeZ l l.length = z at *
  cases hk : polyB l
  · rw [hk] at HC
    clear hk H0
    go_enter Tryz.func25, Tryz.ntmps25
    go_wp2_with fail
    refine Calls.mono HC.out ?_
    rintro e w1 ⟨⟨s, rfl⟩, hb1⟩
    go_wp2_with fail
    refine Calls.mono (none_hit s _ (hg.below hb1)) ?_
    rintro e w2 ⟨rfl, hb2⟩
    have hb := belowTo hb1 hb2
    clear hb1 hb2
    go_wp2
    go_returns
    exact ⟨rfl, hb⟩
  · rw [hk] at HC
    have HK := Lib.hid hk
    clear hk
    have HC2 := Lib.hid (HC.out.mono (fun e w' h => (⟨h.1, h.2⟩ : e = .returned .nilIface ∧ Below w.heap.size w w')))
    clear HC
    go_enter Tryz.func25, Tryz.ntmps25
    go_wp2_with fail
    refine Calls.mono HC2.out ?_
    rintro e w1 ⟨rfl, hb⟩
    go_wp2_with fail
    refine Calls.mono (none_nil _) ?_
    rintro e w2 ⟨rfl, hb2⟩
    replace hb := belowTo hb hb2
    clear hb2
    go_wp2_with fail
    refine Calls.mono (H0.out _ hb HK.out) ?_
    rintro e w3 ⟨rfl, hb3⟩
    replace hb := belowTo hb hb3
    clear hb3
    go_wp2
    go_returns
    exact ⟨rfl, hb⟩
end Go.Proofs.YtgaeibibeekclabGreatDoor
namespace Go.Proofs.YtgaeibibeekclabGreatDoor
open Go.RowKit
theorem cvx_bad {d : List Int} {k : Nat} (hk : k < d.length) (h : cvxP (gz d k) = false) : cvxL d = false := by
  unfold cvxL
  rw [List.all_eq_false]
  exact ⟨_, gz_mem hk, by rw [h]; decide⟩
set_option maxHeartbeats 400000 in
theorem convex1_any (n : Int) (w : World) :
    Calls Tryz.prog 58 #[.int .i64 n] w fun e w' => e = .returned (.bool (cvxP n)) ∧ w' = w := by
  unfold cvxP
  go_enter Tryz.func58, Tryz.ntmps58
  go_wp2
  all_goals go_returns
  all_goals (refine ⟨ret_bool ?_, rfl⟩; first | rfl | simp | (rw [Bool.eq_iff_iff]; simp; try omega))
set_option maxHeartbeats 4000000 in
theorem everyConvex_any (v : Value) (d : List Int) (w : World) (h : ReadsInts w v d) :
    Calls Tryz.prog 56 #[v, .func (.func 58) #[] #[]] w fun e w' => e = .returned (.bool (cvxL d)) ∧ w' = w := by
  obtain ⟨a, c, rfl, hm, hc⟩ := h
  have HC := Lib.hid hc
  have HB := Lib.hid (fun k hk h => cvx_bad (d := d) (k := k) hk h)
  have HG := Lib.hid (fun h => cvx_good (d := d) h)
  obtain ⟨n, hn⟩ : ∃ n, n = d.length := ⟨_, rfl⟩
  have HN := Lib.hid hn
  rw [← hn] at hm ⊢
  clear hc hn
  go_enter Tryz.func56, Tryz.ntmps56
  go_wp2
  go_loop [9] (fun s => ∃ k : Nat, s = .int .i64 k ∧ k ≤ n ∧ Hid (∀ j, j < k → cvxP (gz d j) = true)) (fun s => n - (intOf s).toNat)
  case atStart => exact ⟨0, rfl, Nat.zero_le _, fun j hj => absurd hj (Nat.not_lt_zero _)⟩
  case round =>
    obtain ⟨k, rfl, hk, HR⟩ := hrel
    by_cases hlt : k < n
    · have hkl : k < d.length := by have := HN.out; omega
      obtain ⟨bb, off, rfl, hb, hcell⟩ := HC.out (by omega)
      have c1 : w.cell? ⟨bb, off + k, none⟩ = some (.int .i64 (gz d k)) := hcell k hkl
      have j1 : (0 : Int) ≤ (k : Int) := by omega
      have j2 : (k : Int) < (n : Int) := by omega
      have HI := Lib.hid (fun w' => convex1_any (gz d k) w')
      cases hz : cvxP (gz d k)
      · have HB2 := Lib.hid (HB.out k hkl hz)
        rw [hz] at HI
        clear hz hcell HR
        generalize gz d k = z at c1 HI
        go_wp2_with fail
        refine Calls.mono (HI.out _) ?_
        rintro e w1 ⟨rfl, rfl⟩
        go_wp2
        go_returns
        exact ⟨by rw [HB2.out]; rfl, rfl⟩
      · have HR2 : Hid (∀ j, j < k + 1 → cvxP (gz d j) = true) := fun j hj => by
          by_cases e : j = k
          · subst e; exact hz
          · exact HR.out j (by omega)
        rw [hz] at HI
        clear hz hcell HR
        generalize gz d k = z at c1 HI
        go_wp2_with fail
        refine Calls.mono (HI.out _) ?_
        rintro e w1 ⟨rfl, rfl⟩
        go_wp2
        go_round
        case rel => exact ⟨k + 1, by go_num, by omega, HR2⟩
        case measure => simp [intOf]; omega
    · have hkn : k = n := by omega
      subst hkn
      have HA := Lib.hid (HG.out (fun j hj => HR.out j (by have := HN.out; omega)))
      clear HR HC
      go_wp2
      go_returns
      exact ⟨by rw [HA.out]; rfl, rfl⟩
set_option maxHeartbeats 4000000 in
theorem fanConvex_any (v : Value) (l : List V2) (w : World) (hl : ReadsVecs w v l) (hg : EtOk w) :
    Calls Tryz.prog 27 #[v] w fun e w' => e = .returned (.bool (convB l)) ∧ Below w.heap.size w w' := by
  have HO := Lib.hid (smoothFanOf_any v l w hl hg)
  have HV := Lib.hid (fun h => (smooth_all (l := l) h).1)
  have HS := Lib.hid (fun (ns : List Node) h hn => fan_small (l := l) (ns := ns) (smooth_in h).1 hn)
  have HE := Lib.hid (fun v' b' w' (hI : Ints w' b' v' (numsZ l)) (hm : (numsZ l).length ≤ 1152921504606846976) => everyConvex_any v' (numsZ l) w' (hI.reads hm))
  have HLn := Lib.hid (fun h => (show (numsZ l).length ≤ 1152921504606846976 by rw [nums_len]; have := fan_len (smooth_in (l := l) h).1; omega))
  clear hl
  unfold convB
  generalize hb : smoothB l = b at HO HV HS HLn ⊢
  generalize cvxL (numsZ l) = K at *
  go_enter Tryz.func27, Tryz.ntmps27
  go_wp2_with fail
  refine Calls.mono HO.out ?_
  rintro e w1 ⟨⟨rfl, g, ns, rfl, hF, hn⟩ | ⟨rfl, rfl⟩, hb1⟩
  · obtain ⟨hs, hnl⟩ := HS.out ns (by simp) hn
    have HT := Lib.hid (callsIn_wide.1 (numbers_in 3 (by omega) w.heap.size g ns w1 hF hs (by rw [hn]; exact HV.out (by simp))))
    rw [hn] at HT
    have HL := Lib.hid (HLn.out rfl)
    clear hn hnl hF HV HS hb
    go_wp2_with fail
    refine Calls.mono HT.out ?_
    rintro e w2 ⟨v2, rfl, hV, hb2⟩
    have HE2 := Lib.hid (HE.out v2 _ w2 hV HL.out)
    have hB := belowTo hb1 hb2
    clear hV hb2 HT HE
    go_wp2_with fail
    refine Calls.mono HE2.out ?_
    rintro e w3 ⟨rfl, rfl⟩
    go_wp2
    go_returns
    exact ⟨by cases K <;> rfl, hB⟩
  · clear hb
    go_wp2
    go_returns
    exact ⟨rfl, hb1⟩
end Go.Proofs.YtgaeibibeekclabGreatDoor
