/- Plain mathematics of fractions: which lists have a value. -/
import Derived.Test.YtohojjoediibhaaDoorB1
namespace Go.Proofs.YtohojjoediibhaaDoor
open Go.RowKit

def rngB (b : Int) : Bool := decide (2 ≤ b) && decide (b ≤ 100)
theorem rngB_in {b : Int} (h : rngB b = true) : 2 ≤ b ∧ b ≤ 100 := by simpa [rngB] using h
theorem rngB_out {b : Int} (h : rngB b = false) : b < 2 ∨ (2 ≤ b ∧ 100 < b) := by
  unfold rngB at h
  by_cases h1 : 2 ≤ b <;> by_cases h2 : b ≤ 100 <;> simp [h1, h2] at h <;> omega
def lenB (n : Nat) : Bool := decide (1 ≤ n) && decide (n ≤ 20)
theorem len_in {n : Nat} (h : lenB n = true) : 1 ≤ n ∧ n ≤ 20 := by simpa [lenB] using h
theorem len_out {n : Nat} (h : lenB n = false) : n = 0 ∨ (1 ≤ n ∧ 20 < n) := by
  unfold lenB at h
  by_cases h1 : 1 ≤ n <;> by_cases h2 : n ≤ 20 <;> simp [h1, h2] at h <;> omega
def lstB (l : List Int) : Bool := lenB l.length && l.all rngB
theorem lst_in {l : List Int} (h : lstB l = true) : lenB l.length = true ∧ ∀ b ∈ l, rngB b = true := by simpa [lstB] using h
theorem lst_two {l : List Int} (h : ∀ b ∈ l, rngB b = true) : twoUp l := fun b hb => (rngB_in (h b hb)).1
def valB (l : List Int) : Bool := lstB l && decide (contN l ≤ 1000000000)
theorem val_in {l : List Int} (h : valB l = true) : lstB l = true ∧ contN l ≤ 1000000000 := by simpa [valB] using h
theorem val_no {l : List Int} (h : lstB l = false) : valB l = false := by simp [valB, h]
/-- a list with an end whose number is too great -/
theorem val_great {m s : List Int} (h : ∀ b ∈ m ++ s, rngB b = true) (hs : 1000000000 < contN s) : valB (m ++ s) = false := by
  have := cont_app_le m s (lst_two h)
  have h2 : ¬ contN (m ++ s) ≤ 1000000000 := by omega
  simp [valB, h2]
theorem lst_bad {l : List Int} {b : Int} (hb : b ∈ l) (h : rngB b = false) : lstB l = false := by
  cases h2 : lstB l
  · rfl
  · have := (lst_in h2).2 b hb
    rw [h] at this; cases this
theorem lst_long {l : List Int} (h : lenB l.length = false) : lstB l = false := by simp [lstB, h]
theorem lst_all {l : List Int} (h1 : lenB l.length = true) (h2 : ∀ j, j < l.length → rngB (l[j]?.getD 0) = true) : lstB l = true := by
  unfold lstB
  rw [h1, Bool.true_and, List.all_eq_true]
  intro b hb
  obtain ⟨j, hj, rfl⟩ := List.mem_iff_getElem.1 hb
  have := h2 j hj
  simpa [hj] using this
theorem get_mem {l : List Int} {j : Nat} (h : j < l.length) : l[j]?.getD 0 ∈ l := by simp [h]
theorem drop_get {l : List Int} {j : Nat} (h : j < l.length) : l.drop j = l[j]?.getD 0 :: l.drop (j + 1) := by
  rw [List.drop_eq_getElem_cons h]
  simp [h]
end Go.Proofs.YtohojjoediibhaaDoor
