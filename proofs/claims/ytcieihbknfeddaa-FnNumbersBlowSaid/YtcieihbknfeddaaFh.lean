/- FractionOther: both sides; the exact laws of FractionValue and FractionOther. -/
import Derived.Test.YtcieihbknfeddaaFf
import Derived.Test.YtcieihbknfeddaaK0
import Derived.Test.YtcieihbknfeddaaB4
namespace Go.Proofs.Ytcieihbknfeddaa
open Go.RowKit

theorem contQ_pos {l : List Int} (h : valB l = true) : 1 ≤ contQ l ∧ contQ l < contN l := by
  obtain ⟨h1, _⟩ := val_in h
  obtain ⟨h2, h3⟩ := lst_in h1
  have h4 := len_in h2
  cases l with
  | nil => simp at h4
  | cons b t =>
    have h5 := cont_lt (lst_two h3)
    have h6 := cont_pos (twoUp_tail (lst_two h3))
    exact ⟨h6, h5.2⟩
def otherB (l : List Int) : Bool := valB l && decide (contN l ≤ 10000)
theorem other_in {l : List Int} (h : otherB l = true) : valB l = true ∧ contN l ≤ 10000 := by simpa [otherB] using h
theorem other_len (l : List Int) : (gateL (otherB l) (dualL l)).length ≤ 1152921504606846976 := by
  cases h : otherB l
  · exact Nat.zero_le _
  · obtain ⟨h1, h2⟩ := other_in h
    have := contQ_pos h1
    have h3 := frac_len (contN l) (contN l - contQ l)
    show (fracZ (contN l) (contN l - contQ l)).length ≤ _
    omega
end Go.Proofs.Ytcieihbknfeddaa
