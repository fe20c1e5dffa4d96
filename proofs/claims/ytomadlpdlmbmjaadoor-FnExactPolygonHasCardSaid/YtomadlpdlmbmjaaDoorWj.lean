/- Polygons, the model's side: what has a vector. -/
import Derived.Test.YtomadlpdlmbmjaaDoorWh
namespace Go.Proofs.YtomadlpdlmbmjaaDoor
open Go.RowKit

set_option maxHeartbeats 4000000 in
theorem specPolygonHas_any (v : Value) (l : List V2) (x y : Int) (w : World) (h : ReadsVecs w v l) :
    Calls Tryd.prog 23 #[v, .agg #[.int .i64 (x), .int .i64 (y)]] w fun e w' => e = .returned (.bool (polyB l && (vecB x y && hasPB l (x, y)))) ∧ Below w.heap.size w w' := by
  have HC := Lib.hid (fun w' (hb : Below w.heap.size w w') => specPolygonIn_any v l w' (h.below hb))
  have HL := Lib.hid (fun w' (hb : Below w.heap.size w w') hp hv => l6gLeast_any v l x y w' (h.below hb) hp hv)
  have HV := Lib.hid (fun w' => specVecIn_any x y w')
  have HZ : Hid (polyB l = true → decide (0 ≤ leastZ l (x, y) (l.length - 1)) = hasPB l (x, y)) := fun hp => least_ins (by have := poly_len hp; omega)
  obtain ⟨a, c, rfl, _⟩ := h
  generalize leastZ l (x, y) (l.length - 1) = D at *
  generalize hasPB l (x, y) = K at *
  cases hk : polyB l
  · rw [hk] at HC
    clear hk HL HV HZ
    go_enter Tryd.func23, Tryd.ntmps23
    go_wp2_with fail
    refine Calls.mono (HC.out _ (by go_grown)) ?_
    rintro e w1 ⟨rfl, hb1⟩
    have hb : Below w.heap.size w w1 := belowTo (by go_grown) hb1
    clear hb1
    go_wp2
    go_returns
    exact ⟨rfl, hb⟩
  · have HK := Lib.hid hk
    rw [hk] at HC
    cases hv : vecB x y
    · rw [hv] at HV
      clear hk HL HZ hv HK
      go_enter Tryd.func23, Tryd.ntmps23
      go_wp2_with fail
      refine Calls.mono (HC.out _ (by go_grown)) ?_
      rintro e w1 ⟨rfl, hb1⟩
      have hb : Below w.heap.size w w1 := belowTo (by go_grown) hb1
      have c0 : w1.cell? ⟨w.heap.size, 0, none⟩ = some (.int .i64 x) := (hb1.cell (p := ⟨w.heap.size, 0, none⟩) (by simp)).trans (by first | (go_cell; done) | (go_simp; done) | (simp; done))
      have c1 : w1.cell? ⟨w.heap.size, 1, none⟩ = some (.int .i64 y) := (hb1.cell (p := ⟨w.heap.size, 1, none⟩) (by simp)).trans (by first | (go_cell; done) | (go_simp; done) | (simp; done))
      clear hb1
      go_wp2_with fail
      refine Calls.mono (HV.out _) ?_
      rintro e w2 ⟨rfl, hb2⟩
      replace hb := belowTo hb hb2
      clear hb2
      go_wp2
      go_returns
      exact ⟨rfl, hb⟩
    · rw [hv] at HV
      have HK2 := Lib.hid hv
      have HR : Hid (K = decide (0 ≤ D)) := (HZ.out hk).symm
      clear hk hv HZ
      go_enter Tryd.func23, Tryd.ntmps23
      go_wp2_with fail
      refine Calls.mono (HC.out _ (by go_grown)) ?_
      rintro e w1 ⟨rfl, hb1⟩
      have hb : Below w.heap.size w w1 := belowTo (by go_grown) hb1
      have c0 : w1.cell? ⟨w.heap.size, 0, none⟩ = some (.int .i64 x) := (hb1.cell (p := ⟨w.heap.size, 0, none⟩) (by simp)).trans (by first | (go_cell; done) | (go_simp; done) | (simp; done))
      have c1 : w1.cell? ⟨w.heap.size, 1, none⟩ = some (.int .i64 y) := (hb1.cell (p := ⟨w.heap.size, 1, none⟩) (by simp)).trans (by first | (go_cell; done) | (go_simp; done) | (simp; done))
      clear hb1
      go_wp2_with fail
      refine Calls.mono (HV.out _) ?_
      rintro e w2 ⟨rfl, hb2⟩
      replace c1 := (hb2.cell (p := ⟨w.heap.size, 1, none⟩) (cell_lt c0)).trans c1
      replace c0 := (hb2.cell (p := ⟨w.heap.size, 0, none⟩) (cell_lt c0)).trans c0
      replace hb := belowTo hb hb2
      clear hb2
      go_wp2_with fail
      refine Calls.mono (HL.out _ hb HK.out HK2.out) ?_
      rintro e w3 ⟨rfl, hb3⟩
      replace hb := belowTo hb hb3
      clear hb3 c0 c1
      go_wp2
      go_returns
      exact ⟨by rw [HR.out]; rfl, hb⟩
end Go.Proofs.YtomadlpdlmbmjaaDoor
