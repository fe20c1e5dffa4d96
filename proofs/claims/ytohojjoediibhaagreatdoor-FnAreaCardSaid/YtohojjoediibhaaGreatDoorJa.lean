/- Sections: the mathematics: the vector of a cone, bounds, boxes, sections. -/
import Derived.Test.YtohojjoediibhaaGreatDoorBe
import Derived.Test.YtohojjoediibhaaGreatDoorB9
namespace Go.Proofs.YtohojjoediibhaaGreatDoor
open Go.RowKit

/-- where a vector is -/
def whZ (l : List V2) (a : V2) : Nat := firstI (fun i => inC l i a) l.length
theorem whZ_lt {l : List V2} (h : fanB l = true) (a : V2) : whZ l a < l.length := by
  obtain ⟨i, hi, hc⟩ := fan_covers h a
  unfold whZ firstI
  have h1 := (List.takeWhile_prefix (fun i => !inC l i a) (l := List.range l.length)).length_le
  rw [List.length_range] at h1
  rcases Nat.lt_or_ge ((List.range l.length).takeWhile (fun i => !inC l i a)).length l.length with h2 | h2
  · exact h2
  · have e : (List.range l.length).takeWhile (fun i => !inC l i a) = List.range l.length := (List.takeWhile_prefix _).eq_of_length (by rw [List.length_range]; omega)
    have h3 := List.all_takeWhile (p := fun i => !inC l i a) (l := List.range l.length)
    rw [e] at h3
    have h4 := List.all_eq_true.1 h3 i (List.mem_range.2 hi)
    rw [hc] at h4
    cases h4
/-- the bound of a vector -/
def bndZ (l : List V2) (d : List Int) (a : V2) : Int := detV a (cyc l (whZ l a + 1)) * gz d (whZ l a) + detV (cyc l (whZ l a)) a * gz d ((whZ l a + 1) % l.length)
theorem det_small {a b : V2} (ha : vecB a.1 a.2 = true) (hb : vecB b.1 b.2 = true) : -2000000 ≤ detV a b ∧ detV a b ≤ 2000000 := by
  unfold detV detZ
  have h1 := szs ha
  have h2 := szs hb
  have m1 := mul_le h1.1 h2.2
  have m2 := mul_le h1.2 h2.1
  omega
theorem bnd_terms {l : List V2} {d : List Int} {a : V2} (hv : allVec l) (ha : vecB a.1 a.2 = true) (hd : bnd 100 d) :
    (-200000000 ≤ detV a (cyc l (whZ l a + 1)) * gz d (whZ l a) ∧ detV a (cyc l (whZ l a + 1)) * gz d (whZ l a) ≤ 200000000) ∧ -200000000 ≤ detV (cyc l (whZ l a)) a * gz d ((whZ l a + 1) % l.length) ∧ detV (cyc l (whZ l a)) a * gz d ((whZ l a + 1) % l.length) ≤ 200000000 := by
  have m1 := mul_le (det_small ha (hv (whZ l a + 1))) (hd (whZ l a))
  have m2 := mul_le (det_small (hv (whZ l a)) ha) (hd ((whZ l a + 1) % l.length))
  omega
theorem bndZ_bnd {l : List V2} {d : List Int} {a : V2} (hv : allVec l) (ha : vecB a.1 a.2 = true) (hd : bnd 100 d) : -400000000 ≤ bndZ l d a ∧ bndZ l d a ≤ 400000000 := by
  have := bnd_terms hv ha hd
  unfold bndZ
  omega
/-- is m a section, or one whose products are more than they must be -/
def hasZ (l : List V2) (d : List Int) (m : V2) : Bool := (List.range l.length).all (fun i => decide (-gz d i ≤ dotZ m.1 m.2 (cyc l i).1 (cyc l i).2))
theorem sec_bad {l : List V2} {d : List Int} {m : V2} {i : Nat} (hi : i < l.length) (h : dotZ m.1 m.2 (cyc l i).1 (cyc l i).2 < -gz d i) : hasZ l d m = false := by
  unfold hasZ
  rw [List.all_eq_false]
  exact ⟨i, List.mem_range.2 hi, by simpa using h⟩
theorem sec_good {l : List V2} {d : List Int} {m : V2} (h : ∀ i, i < l.length → -gz d i ≤ dotZ m.1 m.2 (cyc l i).1 (cyc l i).2) : hasZ l d m = true :=
  List.all_eq_true.2 (fun i hi => by simpa using h i (List.mem_range.1 hi))
theorem sec_in {l : List V2} {d : List Int} {m : V2} (h : hasZ l d m = true) {i : Nat} (hi : i < l.length) : -gz d i ≤ dotZ m.1 m.2 (cyc l i).1 (cyc l i).2 := by
  have := List.all_eq_true.1 h i (List.mem_range.2 hi)
  simpa using this
end Go.Proofs.YtohojjoediibhaaGreatDoor
