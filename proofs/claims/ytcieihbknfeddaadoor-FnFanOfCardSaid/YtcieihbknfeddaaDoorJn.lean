/- Lists of vectors: twice the area, checked: the mathematics, the program. -/
import Derived.Test.YtcieihbknfeddaaDoorL4
import Derived.Test.YtcieihbknfeddaaDoorBe
import Derived.Test.YtcieihbknfeddaaDoorB2
namespace Go.Proofs.YtcieihbknfeddaaDoor
open Go.RowKit

def allV (l : List V2) : Bool := l.all (fun m => vecB m.1 m.2)
theorem allV_bad {l : List V2} {k : Nat} (hk : k < l.length) (h : vecB (cyc l k).1 (cyc l k).2 = false) : allV l = false := by
  unfold allV
  rw [List.all_eq_false]
  exact ⟨_, cyc_mem (by omega) k, by rw [h]; decide⟩
theorem allV_good {l : List V2} (h : ∀ k, k < l.length → vecB (cyc l k).1 (cyc l k).2 = true) : allV l = true := by
  unfold allV
  rw [List.all_eq_true]
  intro x hx
  obtain ⟨i, hi, rfl⟩ := List.mem_iff_getElem.1 hx
  have := h i hi
  unfold cyc at this
  rw [Nat.mod_eq_of_lt hi, List.getElem?_eq_getElem hi] at this
  exact this
theorem allV_at {l : List V2} (h : allV l = true) {k : Nat} (hk : k < l.length) : vecB (cyc l k).1 (cyc l k).2 = true := List.all_eq_true.1 h _ (cyc_mem (by omega) k)
def areaZ (l : List V2) : Int := sumZ (fun i => detV (cyc l i) (cyc l (i + 1))) l.length
theorem area_terms {l : List V2} (h : allV l = true) (h0 : 0 < l.length) (i : Nat) : -2000000 ≤ detV (cyc l i) (cyc l (i + 1)) ∧ detV (cyc l i) (cyc l (i + 1)) ≤ 2000000 := by
  have h1 := allV_at h (Nat.mod_lt i h0)
  have h2 := allV_at h (Nat.mod_lt (i + 1) h0)
  rw [cyc_mod] at h1 h2
  unfold detV detZ
  have a := szs h1
  have b := szs h2
  have m1 := mul_le a.1 b.2
  have m2 := mul_le a.2 b.1
  omega
theorem area_bnd {l : List V2} (h : allV l = true) (h0 : 0 < l.length) {k : Nat} (hk : k ≤ 1000) : -2000000000 ≤ sumZ (fun i => detV (cyc l i) (cyc l (i + 1))) k ∧ sumZ (fun i => detV (cyc l i) (cyc l (i + 1))) k ≤ 2000000000 := by
  have := sumZ_bnd (area_terms h h0) k
  omega

def CornPost (l : List V2) (w : World) (e : Ending) (w' : World) : Prop := ((allV l = true ∧ e = .returned .nilIface) ∨ (allV l = false ∧ IsNone e)) ∧ Below w.heap.size w w'
end Go.Proofs.YtcieihbknfeddaaDoor
