/- Polygons, the model's side: the exported functions that tell areas, edges. -/
import Derived.Test.YtpimhndholckcaaDoorK1
namespace Go.Proofs.YtpimhndholckcaaDoor
open Go.RowKit

set_option maxHeartbeats 4000000 in
theorem specPolygonArea_any (v : Value) (l : List V2) (w : World) (h : ReadsVecs w v l) :
    Calls Tryd.prog 9 #[v] w fun e w' => e = .returned (.tuple #[.int .i64 (gate (polyB l) (areaZ l)), .bool (polyB l)]) ∧ Below w.heap.size w w' := by
  have HC := Lib.hid (specPolygonIn_any v l w h)
  have H0 := Lib.hid (fun w' (hb : Below w.heap.size w w') (hp : polyB l = true) => l6gArea_any v l w' (h.below hb) hp)
  obtain ⟨a, c, rfl, _⟩ := h
  generalize areaZ l = z at *
  cases hk : polyB l
  · rw [hk] at HC
    clear hk H0
    go_enter Tryd.func9, Tryd.ntmps9
    go_wp2_with fail
    refine Calls.mono HC.out ?_
    rintro e w1 ⟨rfl, hb⟩
    go_wp2
    go_returns
    exact ⟨rfl, hb⟩
  · rw [hk] at HC
    have HK := Lib.hid hk
    clear hk
    go_enter Tryd.func9, Tryd.ntmps9
    go_wp2_with fail
    refine Calls.mono HC.out ?_
    rintro e w1 ⟨rfl, hb⟩
    go_wp2_with fail
    refine Calls.mono (H0.out _ hb HK.out) ?_
    rintro e w3 ⟨rfl, hb3⟩
    replace hb := belowTo hb hb3
    clear hb3
    go_wp2
    go_returns
    exact ⟨rfl, hb⟩
set_option maxHeartbeats 4000000 in
theorem specPolygonEdge_any (v : Value) (l : List V2) (w : World) (h : ReadsVecs w v l) :
    Calls Tryd.prog 13 #[v] w fun e w' => e = .returned (.tuple #[.int .i64 (gate (polyB l) (edgeZ l l.length)), .bool (polyB l)]) ∧ Below w.heap.size w w' := by
  have HC := Lib.hid (specPolygonIn_any v l w h)
  have H0 := Lib.hid (fun w' (hb : Below w.heap.size w w') (hp : polyB l = true) => l6gEdge_any v l w' (h.below hb) hp)
  obtain ⟨a, c, rfl, _⟩ := h
  generalize edgeZ l l.length = z at *
  cases hk : polyB l
  · rw [hk] at HC
    clear hk H0
    go_enter Tryd.func13, Tryd.ntmps13
    go_wp2_with fail
    refine Calls.mono HC.out ?_
    rintro e w1 ⟨rfl, hb⟩
    go_wp2
    go_returns
    exact ⟨rfl, hb⟩
  · rw [hk] at HC
    have HK := Lib.hid hk
    clear hk
    go_enter Tryd.func13, Tryd.ntmps13
    go_wp2_with fail
    refine Calls.mono HC.out ?_
    rintro e w1 ⟨rfl, hb⟩
    go_wp2_with fail
    refine Calls.mono (H0.out _ hb HK.out) ?_
    rintro e w3 ⟨rfl, hb3⟩
    replace hb := belowTo hb hb3
    clear hb3
    go_wp2
    go_returns
    exact ⟨rfl, hb⟩
end Go.Proofs.YtpimhndholckcaaDoor
