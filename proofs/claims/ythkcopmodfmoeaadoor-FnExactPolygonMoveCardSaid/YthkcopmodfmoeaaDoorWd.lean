/- Polygons: their vectors, areas, edges: the program. -/
import Derived.Test.YthkcopmodfmoeaaDoorWc
import Derived.Test.YthkcopmodfmoeaaDoorWp
import Derived.Test.YthkcopmodfmoeaaDoorJn
import Derived.Test.YthkcopmodfmoeaaDoorB2
namespace Go.Proofs.YthkcopmodfmoeaaDoor
open Go.RowKit

theorem polyEnd_of {b : Bool} {e : Ending} (h : PolyEnd b e) : (b = true ∧ e = .returned .nilIface) ∨ (b = false ∧ IsNone e) := by
  cases b
  · exact .inr ⟨rfl, h⟩
  · exact .inl ⟨rfl, h⟩
theorem polyEnd_err {b : Bool} {e : Ending} (h : b = false) (k : IsNone e) : PolyEnd b e := by rw [h]; exact k
theorem polyEnd_ok {b : Bool} {e : Ending} (h : b = true) (k : e = .returned .nilIface) : PolyEnd b e := by rw [h]; exact k
set_option maxHeartbeats 4000000 in
theorem checkAll_pv (v : Value) (l : List V2) (x y : Int) (B : Nat) (w : World) (h : ReadsVecs w v l)
    (c0 : w.cell? ⟨B, 0, none⟩ = some (.iface 54 v)) (c1 : w.cell? ⟨B, 1, none⟩ = some (.iface 38 (.agg #[.int .i64 (x), .int .i64 (y)]))) (hB : B < w.heap.size) :
    Calls Tryd.prog 45 #[.slice (some ⟨B, 0, none⟩) 2 2] w fun e w' => PolyEnd (polyB l && vecB x y) e ∧ Below w.heap.size w w' := by
  have HC := Lib.hid (fun w' hb => polyCheck_any v l w' (h.below (w := w) hb))
  clear h
  generalize polyB l = K at *
  go_enter Tryd.func45, Tryd.ntmps45
  go_wp2
  refine wp_loop_rounds 3 ?_
  rw [rounds_succ]
  go_wp2_with fail
  refine Calls.mono (HC.out _ (by go_grown)) ?_
  rintro e w1 ⟨he, hb1⟩
  replace hb1 : Below w.heap.size w w1 := belowTo (by go_grown) hb1
  have c1' : w1.cell? ⟨B, 1, none⟩ = some (.iface 38 (.agg #[.int .i64 (x), .int .i64 (y)])) := (hb1.cell (p := ⟨B, 1, none⟩) hB).trans c1
  rcases polyEnd_of he with ⟨rfl, rfl⟩ | ⟨rfl, s, rfl⟩
  · clear he c0 c1 HC
    cases h2 : vecB x y
    · go_wp2_with fail
      rw [rounds_succ]
      go_wp2_with fail
      go_call (check_out x y _ h2) as e w2 ⟨⟨s, rfl⟩, hb2⟩
      clear c1'
      go_wp2
      go_returns
      exact ⟨polyEnd_err (by rw [h2]; rfl) ⟨_, rfl⟩, belowTo hb1 hb2⟩
    · go_wp2_with fail
      rw [rounds_succ]
      go_wp2_with fail
      go_call (check_in x y _ h2) as e w2 ⟨rfl, hb2⟩
      clear c1'
      go_wp2_with fail
      rw [rounds_succ]
      go_wp2
      go_returns
      exact ⟨polyEnd_ok (by rw [h2]; rfl) rfl, belowTo hb1 hb2⟩
  · clear he c0 c1 HC c1'
    go_wp2
    go_returns
    exact ⟨polyEnd_err rfl ⟨_, rfl⟩, hb1⟩
/-- is a vector one of the polygon's -/
def hasPB (l : List V2) (a : V2) : Bool := insB (cyc l) l.length 0 a
theorem hasP_not {l : List V2} {a : V2} {i : Nat} (hi : i < l.length) (h : sideZ (cyc l) i a < 0) : hasPB l a = false := by
  cases k : hasPB l a
  · rfl
  · have := ins_iff.1 k i hi
    omega
theorem hasP_yes {l : List V2} {a : V2} (h : ∀ i, i < l.length → 0 ≤ sideZ (cyc l) i a) : hasPB l a = true := ins_iff.2 h
end Go.Proofs.YthkcopmodfmoeaaDoor
