/- Polygons: edges, normals, the exported functions: the program. -/
import Derived.Test.YtkcnpbgbgdgkpaaDoorBj
import Derived.Test.YtkcnpbgbgdgkpaaDoorTi
namespace Go.Proofs.YtkcnpbgbgdgkpaaDoor
open Go.RowKit

theorem polyEnd_cases {b : Bool} {e : Ending} (h : PolyEnd b e) : (b = true ∧ e = .returned .nilIface) ∨ (b = false ∧ ∃ s, e = .returned (.iface 79 (.agg #[.string s]))) := polyEnd_of h
theorem way_nz {l : List V2} (h : polyB l = true) (i : Nat) : ¬ ((wayZ l i).1 = 0 ∧ (wayZ l i).2 = 0) := by
  rintro ⟨h1, h2⟩
  have t : 0 < detV (wayZ l i) (wayZ l (i + 1)) := (poly_conv h).turn i
  unfold detV detZ at t
  rw [h1, h2] at t
  omega
theorem way_vec {l : List V2} (h : polyB l = true) (i : Nat) : vecB (wayZ l i).1 (wayZ l i).2 = true := vec_of (by have := way_small (allK_all (poly_in h).2.1 (by have := poly_len h; omega)) i; omega)
/-- the vectors on the edges -/
def edgeZ (l : List V2) (k : Nat) : Int := sumZ (fun i => gcdZ (wayZ l i).1 (wayZ l i).2) k
theorem edge_bnd {l : List V2} (h : polyB l = true) : ∀ k, 0 ≤ edgeZ l k ∧ edgeZ l k ≤ 1000 * k := by
  intro k
  induction k with
  | zero => exact ⟨Int.le_refl _, Int.le_refl _⟩
  | succ k ih =>
    have := szs (way_vec h k)
    have a := gcdZ_le (n := 1000) this.1 this.2
    have b := gcdZ_nonneg (wayZ l k).1 (wayZ l k).2
    unfold edgeZ at *
    rw [show sumZ (fun i => gcdZ (wayZ l i).1 (wayZ l i).2) (k + 1) = sumZ (fun i => gcdZ (wayZ l i).1 (wayZ l i).2) k + gcdZ (wayZ l k).1 (wayZ l k).2 from rfl]
    omega
theorem poly_allV {l : List V2} (h : polyB l = true) : allV l = true := allV_good (fun k _ => poly_vec h k)
set_option maxHeartbeats 4000000 in
theorem polyArea_any (v : Value) (l : List V2) (w : World) (h : ReadsVecs w v l) (hp : polyB l = true) :
    Calls Tryd.prog 39 #[v] w fun e w' => e = .returned (.int .i64 (areaZ l)) ∧ Below w.heap.size w w' := by
  have h30 := poly_len hp
  have HA := Lib.hid (area_any v l w h (by omega) (by omega) (poly_allV hp))
  obtain ⟨a, c, rfl, _⟩ := h
  generalize areaZ l = z at *
  clear hp
  go_enter Tryd.func39, Tryd.ntmps39
  go_wp2_with fail
  refine Calls.mono HA.out ?_
  rintro e w1 ⟨rfl, hb1⟩
  go_wp2
  go_returns
  exact ⟨rfl, hb1⟩
/-- the inner vectors, by Pick's formula -/
def innerZ (l : List V2) : Int := (areaZ l - edgeZ l l.length + 2).tdiv 2
theorem poly_nums {l : List V2} (h : polyB l = true) : (-2000000000 ≤ areaZ l ∧ areaZ l ≤ 2000000000) ∧ 0 ≤ edgeZ l l.length ∧ edgeZ l l.length ≤ 30000 := by
  have h30 := poly_len h
  have a := area_bnd (poly_allV h) (by omega) (k := l.length) (by omega)
  have b := edge_bnd h l.length
  exact ⟨a, b.1, by omega⟩
end Go.Proofs.YtkcnpbgbgdgkpaaDoor
