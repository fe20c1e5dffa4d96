import Derived.Test.YtgaeibibeekclabGreatDoorS08
import Derived.Test.YtgaeibibeekclabGreatDoorS36
import Derived.StillTailTactics
namespace Go.Proofs.YtgaeibibeekclabGreatDoor
open Go.RowKit
theorem smooth_mk {l : List V2} (hf : fanB l = true) (h : ∀ i, detV (cyc l i) (cyc l (i + 1)) = 1) : smoothB l = true := by
  unfold smoothB
  rw [hf, Bool.true_and]
  exact List.all_eq_true.2 (fun i _ => by unfold smB; rw [h i]; rfl)
theorem allS_rot {l : List V2} {K : Nat} (hK : K ≤ l.length) : allS (rot K l) = allS l := by
  by_cases h0 : l.length = 0
  · have : l = [] := List.eq_nil_of_length_eq_zero h0
    subst this
    simp [rot]
  · unfold allS
    rw [rot_len]
    have : smB (rot K l) = fun i => smB l (K + i) := funext fun i => by
      unfold smB
      rw [cyc_rot hK, cyc_rot hK, Nat.add_assoc]
    rw [this]
    exact all_rot (by omega) (fun i => by unfold smB; rw [cyc_add, show i + l.length + 1 = i + 1 + l.length by omega, cyc_add]) K
theorem smooth_rotB {l : List V2} {K : Nat} (hK : K ≤ l.length) : smoothB (rot K l) = smoothB l := by
  unfold smoothB
  rw [fan_rot hK, allS_rot hK]
theorem smooth_tidy {l : List V2} (h : smoothB l = true) : smoothB (tidyL l) = true := by
  have := smooth_len h
  unfold tidyL
  rw [smooth_rotB (Nat.le_of_lt (tidyK_lt (by omega)))]
  exact h
end Go.Proofs.YtgaeibibeekclabGreatDoor
