/- Lists of numbers: copied, compared, turned over. -/
import Derived.Test.YtdlofnkimikaiaaGreatDoorB3
namespace Go.Proofs.YtdlofnkimikaiaaGreatDoor
open Go.RowKit

theorem set_copy (l : List Int) (xs : List Value) (k : Nat) (h : k < l.length) (hx : xs.length = l.length) :
    (intsV (l.take k) ++ xs.drop k).set k (.int .i64 (l[k]?.getD 0)) = intsV (l.take (k + 1)) ++ xs.drop (k + 1) := by
  have e1 : (intsV (l.take k)).length = k := by simp [intsV]; omega
  rw [List.set_append_right _ _ (by omega), e1, Nat.sub_self, List.drop_eq_getElem_cons (by omega), List.set_cons_zero]
  have e2 : l.take (k + 1) = l.take k ++ [l[k]?.getD 0] := by
    rw [List.take_add_one]
    simp [h]
  rw [e2]
  simp [intsV]
/-! compared, as the laws of the promises do it -/
end Go.Proofs.YtdlofnkimikaiaaGreatDoor
