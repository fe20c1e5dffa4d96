import Derived.Test.YtgaeibibeekclabGreatDoorS42
import Derived.Test.YtgaeibibeekclabGreatDoorS48
import Derived.Test.YtgaeibibeekclabGreatDoorS49
namespace Go.Proofs.YtgaeibibeekclabGreatDoor
open Go.RowKit
def numRB (l : List V2) : Bool := fanRB l && smoothB (fanRL l)
def numRL (l : List V2) : List Int := gV (numRB l) (numsZ (fanRL l))
theorem fanRL_len (l : List V2) : (fanRL l).length ≤ 576460752303423488 := gV_len (fun h => by
  unfold fanRB at h
  rw [Bool.and_eq_true] at h
  have := fan_len h.2
  rw [tidyL_len]
  omega)
set_option maxHeartbeats 8000000 in
theorem reflexiveNumbers_any (v : Value) (l : List V2) (w : World) (h : ReadsVecs w v l) (hg : EtOk w) :
    Calls Tryz.prog 29 #[v] w (GivesIntsOk w (numRL l) (numRB l)) := by
  have HC := Lib.hid (reflexiveFan_any v l w h hg)
  have HN := Lib.hid (fun v' b' w' (hI : Vecs w' b' v' (fanRL l)) (hb : Below w.heap.size w w') => fanNumbers_any v' (fanRL l) w' (hI.reads (fanRL_len l)) (hg.below hb))
  obtain ⟨a, c, rfl, _⟩ := h
  unfold numRL numRB
  generalize fanRL l = D at *
  cases hB : fanRB l
  · rw [hB] at HC
    clear hB HN
    go_enter Tryz.func29, Tryz.ntmps29
    go_wp2_with fail
    refine Calls.mono HC.out ?_
    rintro e w1 ⟨v1, rfl, I1, hb1⟩
    clear I1
    go_wp2
    go_returns
    exact ⟨_, rfl, Ints.nil _ _, hb1⟩
  · rw [hB] at HC
    clear hB
    rw [Bool.true_and]
    generalize smoothB D = S at *
    generalize gV S (numsZ D) = M at *
    go_enter Tryz.func29, Tryz.ntmps29
    go_wp2_with fail
    refine Calls.mono HC.out ?_
    rintro e w1 ⟨v1, rfl, I1, hb1⟩
    have HN1 := Lib.hid (HN.out v1 _ w1 I1 hb1)
    clear I1 HN
    go_wp2_with fail
    refine Calls.mono HN1.out ?_
    rintro e w2 ⟨v2, rfl, I2, hb2⟩
    have HI2 := Lib.hid (I2.lower hb1.size)
    have hb := belowTo hb1 hb2
    clear hb2 I2 HN1
    go_wp2
    go_returns
    exact ⟨_, rfl, HI2.out, hb⟩
end Go.Proofs.YtgaeibibeekclabGreatDoor
namespace Go.Proofs.YtgaeibibeekclabGreatDoor
open Go.RowKit
set_option maxHeartbeats 8000000 in
theorem specReflexiveNumbers_any (v : Value) (l : List V2) (w : World) (h : ReadsVecs w v l) :
    Calls Tryz.prog 30 #[v] w (GivesIntsOk w (numRL l) (numRB l)) := by
  have HC := Lib.hid (show Calls Tryz.prog 24 #[v] w (GivesVecsOk w (fanRL l) (fanRB l)) from specReflexiveFan_any v l w h)
  have HN := Lib.hid (fun v' b' w' (hI : Vecs w' b' v' (fanRL l)) => specFanNumbers_any v' (fanRL l) w' (hI.reads (fanRL_len l)))
  have hE := Lib.hid (fun w' => Ints.empty w')
  obtain ⟨a, c, rfl, _⟩ := h
  unfold numRL numRB
  generalize fanRL l = D at *
  cases hB : fanRB l
  · rw [hB] at HC
    clear hB HN
    go_enter Tryz.func30, Tryz.ntmps30
    go_wp2_with fail
    refine Calls.mono HC.out ?_
    rintro e w1 ⟨v1, rfl, I1, hb1⟩
    have hs1 := hb1.size
    have HE := Lib.hid ((hE.out w1).lower hs1)
    clear I1
    go_wp2
    go_returns
    exact ⟨_, rfl, HE.out, by go_grown⟩
  · rw [hB] at HC
    clear hB
    rw [Bool.true_and]
    generalize smoothB D = S at *
    generalize gV S (numsZ D) = M at *
    go_enter Tryz.func30, Tryz.ntmps30
    go_wp2_with fail
    refine Calls.mono HC.out ?_
    rintro e w1 ⟨v1, rfl, I1, hb1⟩
    have HN1 := Lib.hid (HN.out v1 _ w1 I1)
    clear I1 HN hE
    go_wp2_with fail
    refine Calls.mono HN1.out ?_
    rintro e w2 ⟨v2, rfl, I2, hb2⟩
    have HI2 := Lib.hid (I2.lower hb1.size)
    have hb := belowTo hb1 hb2
    clear hb2 I2 HN1
    go_wp2
    go_returns
    exact ⟨_, rfl, HI2.out, hb⟩
end Go.Proofs.YtgaeibibeekclabGreatDoor
