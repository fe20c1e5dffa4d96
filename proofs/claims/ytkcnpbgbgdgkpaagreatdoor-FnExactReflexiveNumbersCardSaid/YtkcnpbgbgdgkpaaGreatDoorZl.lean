/- Reflexive polygons: the numbers of the fan of the edge vectors: the model. -/
import Derived.Test.YtkcnpbgbgdgkpaaGreatDoorZj
import Derived.Test.YtkcnpbgbgdgkpaaGreatDoorZk
import Derived.Test.YtkcnpbgbgdgkpaaGreatDoorBf
namespace Go.Proofs.YtkcnpbgbgdgkpaaGreatDoor
open Go.RowKit

set_option maxHeartbeats 8000000 in
theorem specReflexiveNumbers_any (v : Value) (l : List V2) (w : World) (h : ReadsVecs w v l) :
    Calls Tryz.prog 18 #[v] w (GivesIntsOk w (numRL l) (numRB l)) := by
  have HC := Lib.hid (show Calls Tryz.prog 16 #[v] w (GivesVecsOk w (fanRL l) (fanRB l)) from specReflexiveFan_any v l w h)
  have HN := Lib.hid (fun v' b' w' (hI : Vecs w' b' v' (fanRL l)) => specFanNumbers_any v' (fanRL l) w' (hI.reads (fanRL_len l)))
  have hE := Lib.hid (fun w' => Ints.empty w')
  obtain ⟨a, c, rfl, _⟩ := h
  unfold numRL numRB
  generalize fanRL l = D at *
  cases hB : fanRB l
  · rw [hB] at HC
    clear hB HN
    go_enter Tryz.func18, Tryz.ntmps18
    go_wp2_with fail
    refine Calls.mono HC.out ?_
    rintro e w1 ⟨v1, rfl, I1, hb1⟩
    have hs1 := hb1.size
    have HE := Lib.hid ((hE.out w1).lower hs1)
    clear I1
    go_wp2
    go_returns
    exact ⟨_, rfl, HE.out, by go_grown⟩
  · rw [hB] at HC
    clear hB
    rw [Bool.true_and]
    generalize smoothB D = S at *
    generalize gV S (numsZ D) = M at *
    go_enter Tryz.func18, Tryz.ntmps18
    go_wp2_with fail
    refine Calls.mono HC.out ?_
    rintro e w1 ⟨v1, rfl, I1, hb1⟩
    have HN1 := Lib.hid (HN.out v1 _ w1 I1)
    clear I1 HN hE
    go_wp2_with fail
    refine Calls.mono HN1.out ?_
    rintro e w2 ⟨v2, rfl, I2, hb2⟩
    have HI2 := Lib.hid (I2.lower hb1.size)
    have hb := belowTo hb1 hb2
    clear hb2 I2 HN1
    go_wp2
    go_returns
    exact ⟨_, rfl, HI2.out, hb⟩
end Go.Proofs.YtkcnpbgbgdgkpaaGreatDoor
