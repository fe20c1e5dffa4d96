/- Polygons: the exported functions that tell numbers: the program. -/
import Derived.Test.YtomadlpdlmbmjaaDoorWe
namespace Go.Proofs.YtomadlpdlmbmjaaDoor
open Go.RowKit

set_option maxHeartbeats 4000000 in
theorem polygonArea_any (v : Value) (l : List V2) (w : World) (h : ReadsVecs w v l) (hg : EtOk w) :
    Calls Tryd.prog 26 #[v] w fun e w' => e = .returned (.tuple #[.int .i64 (gate (polyB l) (areaZ l)), .bool (polyB l)]) ∧ Below w.heap.size w w' := by
  have HC := Lib.hid (polyCheck_any v l w h)
  have H0 := Lib.hid (fun w' (hb : Below w.heap.size w w') (hp : polyB l = true) => polyArea_any v l w' (h.below hb) hp)
  obtain ⟨a, c, rfl, _⟩ := h
  generalize areaZ l = z at *
  cases hk : polyB l
  · rw [hk] at HC
    clear hk H0
    go_enter Tryd.func26, Tryd.ntmps26
    go_wp2_with fail
    refine Calls.mono HC.out ?_
    rintro e w1 ⟨⟨s, rfl⟩, hb1⟩
    go_wp2_with fail
    refine Calls.mono (none_hit s _ (hg.below hb1)) ?_
    rintro e w2 ⟨rfl, hb2⟩
    have hb := belowTo hb1 hb2
    clear hb1 hb2
    go_wp2
    go_returns
    exact ⟨rfl, hb⟩
  · rw [hk] at HC
    have HK := Lib.hid hk
    clear hk
    have HC2 := Lib.hid (HC.out.mono (fun e w' h => (⟨h.1, h.2⟩ : e = .returned .nilIface ∧ Below w.heap.size w w')))
    clear HC
    go_enter Tryd.func26, Tryd.ntmps26
    go_wp2_with fail
    refine Calls.mono HC2.out ?_
    rintro e w1 ⟨rfl, hb⟩
    go_wp2_with fail
    refine Calls.mono (none_nil _) ?_
    rintro e w2 ⟨rfl, hb2⟩
    replace hb := belowTo hb hb2
    clear hb2
    go_wp2_with fail
    refine Calls.mono (H0.out _ hb HK.out) ?_
    rintro e w3 ⟨rfl, hb3⟩
    replace hb := belowTo hb hb3
    clear hb3
    go_wp2
    go_returns
    exact ⟨rfl, hb⟩
set_option maxHeartbeats 4000000 in
theorem polygonEdge_any (v : Value) (l : List V2) (w : World) (h : ReadsVecs w v l) (hg : EtOk w) :
    Calls Tryd.prog 28 #[v] w fun e w' => e = .returned (.tuple #[.int .i64 (gate (polyB l) (edgeZ l l.length)), .bool (polyB l)]) ∧ Below w.heap.size w w' := by
  have HC := Lib.hid (polyCheck_any v l w h)
  have H0 := Lib.hid (fun w' (hb : Below w.heap.size w w') (hp : polyB l = true) => edge_any v l w' (h.below hb) hp)
  obtain ⟨a, c, rfl, _⟩ := h
  generalize edgeZ l l.length = z at *
  cases hk : polyB l
  · rw [hk] at HC
    clear hk H0
    go_enter Tryd.func28, Tryd.ntmps28
    go_wp2_with fail
    refine Calls.mono HC.out ?_
    rintro e w1 ⟨⟨s, rfl⟩, hb1⟩
    go_wp2_with fail
    refine Calls.mono (none_hit s _ (hg.below hb1)) ?_
    rintro e w2 ⟨rfl, hb2⟩
    have hb := belowTo hb1 hb2
    clear hb1 hb2
    go_wp2
    go_returns
    exact ⟨rfl, hb⟩
  · rw [hk] at HC
    have HK := Lib.hid hk
    clear hk
    have HC2 := Lib.hid (HC.out.mono (fun e w' h => (⟨h.1, h.2⟩ : e = .returned .nilIface ∧ Below w.heap.size w w')))
    clear HC
    go_enter Tryd.func28, Tryd.ntmps28
    go_wp2_with fail
    refine Calls.mono HC2.out ?_
    rintro e w1 ⟨rfl, hb⟩
    go_wp2_with fail
    refine Calls.mono (none_nil _) ?_
    rintro e w2 ⟨rfl, hb2⟩
    replace hb := belowTo hb hb2
    clear hb2
    go_wp2_with fail
    refine Calls.mono (H0.out _ hb HK.out) ?_
    rintro e w3 ⟨rfl, hb3⟩
    replace hb := belowTo hb hb3
    clear hb3
    go_wp2
    go_returns
    exact ⟨rfl, hb⟩
set_option maxHeartbeats 4000000 in
theorem polygonInner_any (v : Value) (l : List V2) (w : World) (h : ReadsVecs w v l) (hg : EtOk w) :
    Calls Tryd.prog 30 #[v] w fun e w' => e = .returned (.tuple #[.int .i64 (gate (polyB l) (innerZ l)), .bool (polyB l)]) ∧ Below w.heap.size w w' := by
  have HC := Lib.hid (polyCheck_any v l w h)
  have H0 := Lib.hid (fun w' (hb : Below w.heap.size w w') (hp : polyB l = true) => inner_any v l w' (h.below hb) hp)
  obtain ⟨a, c, rfl, _⟩ := h
  generalize innerZ l = z at *
  cases hk : polyB l
  · rw [hk] at HC
    clear hk H0
    go_enter Tryd.func30, Tryd.ntmps30
    go_wp2_with fail
    refine Calls.mono HC.out ?_
    rintro e w1 ⟨⟨s, rfl⟩, hb1⟩
    go_wp2_with fail
    refine Calls.mono (none_hit s _ (hg.below hb1)) ?_
    rintro e w2 ⟨rfl, hb2⟩
    have hb := belowTo hb1 hb2
    clear hb1 hb2
    go_wp2
    go_returns
    exact ⟨rfl, hb⟩
  · rw [hk] at HC
    have HK := Lib.hid hk
    clear hk
    have HC2 := Lib.hid (HC.out.mono (fun e w' h => (⟨h.1, h.2⟩ : e = .returned .nilIface ∧ Below w.heap.size w w')))
    clear HC
    go_enter Tryd.func30, Tryd.ntmps30
    go_wp2_with fail
    refine Calls.mono HC2.out ?_
    rintro e w1 ⟨rfl, hb⟩
    go_wp2_with fail
    refine Calls.mono (none_nil _) ?_
    rintro e w2 ⟨rfl, hb2⟩
    replace hb := belowTo hb hb2
    clear hb2
    go_wp2_with fail
    refine Calls.mono (H0.out _ hb HK.out) ?_
    rintro e w3 ⟨rfl, hb3⟩
    replace hb := belowTo hb hb3
    clear hb3
    go_wp2
    go_returns
    exact ⟨rfl, hb⟩
set_option maxHeartbeats 4000000 in
theorem polygonCount_any (v : Value) (l : List V2) (w : World) (h : ReadsVecs w v l) (hg : EtOk w) :
    Calls Tryd.prog 32 #[v] w fun e w' => e = .returned (.tuple #[.int .i64 (gate (polyB l) (innerZ l + edgeZ l l.length)), .bool (polyB l)]) ∧ Below w.heap.size w w' := by
  have HC := Lib.hid (polyCheck_any v l w h)
  have H0 := Lib.hid (fun w' (hb : Below w.heap.size w w') (hp : polyB l = true) => inner_any v l w' (h.below hb) hp)
  have H1 := Lib.hid (fun w' (hb : Below w.heap.size w w') (hp : polyB l = true) => edge_any v l w' (h.below hb) hp)
  have HN := Lib.hid (fun hp => poly_nums (l := l) hp)
  have HIb : Hid (-3000000000 ≤ areaZ l - edgeZ l l.length + 2 ∧ areaZ l - edgeZ l l.length + 2 ≤ 3000000000 → -3000000000 ≤ innerZ l ∧ innerZ l ≤ 3000000000) := fun h => tdiv_bd h
  generalize areaZ l = z at *
  generalize edgeZ l l.length = g at *
  obtain ⟨a, c, rfl, _⟩ := h
  generalize innerZ l = y at *
  cases hk : polyB l
  · rw [hk] at HC
    clear hk H0 H1 HN HIb
    go_enter Tryd.func32, Tryd.ntmps32
    go_wp2_with fail
    refine Calls.mono HC.out ?_
    rintro e w1 ⟨⟨s, rfl⟩, hb1⟩
    go_wp2_with fail
    refine Calls.mono (none_hit s _ (hg.below hb1)) ?_
    rintro e w2 ⟨rfl, hb2⟩
    have hb := belowTo hb1 hb2
    clear hb1 hb2
    go_wp2
    go_returns
    exact ⟨rfl, hb⟩
  · rw [hk] at HC
    have HK := Lib.hid hk
    clear hk
    have HC2 := Lib.hid (HC.out.mono (fun e w' h => (⟨h.1, h.2⟩ : e = .returned .nilIface ∧ Below w.heap.size w w')))
    clear HC
    obtain ⟨⟨n1, n2⟩, n3, n4⟩ := HN.out HK.out
    obtain ⟨n5, n6⟩ := HIb.out (by omega)
    have q1 : IntKind.i64.wrap (y + g) = y + g := by rw [IntKind.wrap_i64]; omega
    clear HN HIb n1 n2 n3 n4 n5 n6
    go_enter Tryd.func32, Tryd.ntmps32
    go_wp2_with fail
    refine Calls.mono HC2.out ?_
    rintro e w1 ⟨rfl, hb⟩
    go_wp2_with fail
    refine Calls.mono (none_nil _) ?_
    rintro e w2 ⟨rfl, hb2⟩
    replace hb := belowTo hb hb2
    clear hb2
    go_wp2_with fail
    refine Calls.mono (H0.out _ hb HK.out) ?_
    rintro e w3 ⟨rfl, hb3⟩
    replace hb := belowTo hb hb3
    clear hb3
    go_wp2_with fail
    refine Calls.mono (H1.out _ hb HK.out) ?_
    rintro e w4 ⟨rfl, hb4⟩
    replace hb := belowTo hb hb4
    clear hb4
    go_wp2
    go_returns
    exact ⟨rfl, hb⟩
set_option maxHeartbeats 4000000 in
theorem polygonHas_any (v : Value) (l : List V2) (x y : Int) (w : World) (h : ReadsVecs w v l) (hg : EtOk w) :
    Calls Tryd.prog 24 #[v, .agg #[.int .i64 (x), .int .i64 (y)]] w fun e w' => e = .returned (.bool (polyB l && (vecB x y && hasPB l (x, y)))) ∧ Below w.heap.size w w' := by
  have HC := Lib.hid (fun B w' (hb : Below w.heap.size w w') c0 c1 hB => checkAll_pv v l x y B w' (h.below hb) c0 c1 hB)
  have HH := Lib.hid (fun w' (hb : Below w.heap.size w w') hp hv => polyHas_any v l x y w' (h.below hb) hp hv)
  obtain ⟨a, c, rfl, _⟩ := h
  generalize hasPB l (x, y) = K at *
  have key : (polyB l && vecB x y) = true ∨ (polyB l && vecB x y) = false := by cases (polyB l && vecB x y) <;> simp
  rcases key with hk | hk
  · have hk2 : polyB l = true ∧ vecB x y = true := by simpa using hk
    have HK := Lib.hid hk2
    have HR : Hid ((polyB l && (vecB x y && K)) = K) := by show _ = _; rw [hk2.1, hk2.2]; rfl
    rw [hk] at HC
    clear hk hk2
    rw [HR.out]
    go_enter Tryd.func24, Tryd.ntmps24
    go_wp2_with fail
    refine Calls.mono (HC.out _ _ (by go_grown) (by go_cell) (by go_cell) (by go_size)) ?_
    rintro e w1 ⟨he, hb1⟩
    obtain rfl : e = .returned .nilIface := he
    have hb : Below w.heap.size w w1 := belowTo (by go_grown) hb1
    have c0 : w1.cell? ⟨w.heap.size, 0, none⟩ = some (.int .i64 x) := (hb1.cell (p := ⟨w.heap.size, 0, none⟩) (by simp; omega)).trans (by first | (go_cell; done) | (go_simp; done) | (simp; done))
    have c1 : w1.cell? ⟨w.heap.size, 1, none⟩ = some (.int .i64 y) := (hb1.cell (p := ⟨w.heap.size, 1, none⟩) (by simp; omega)).trans (by first | (go_cell; done) | (go_simp; done) | (simp; done))
    clear hb1
    go_wp2_with fail
    refine Calls.mono (none_nil _) ?_
    rintro e w2 ⟨rfl, hb2⟩
    replace c1 := (hb2.cell (p := ⟨w.heap.size, 1, none⟩) (cell_lt c0)).trans c1
    replace c0 := (hb2.cell (p := ⟨w.heap.size, 0, none⟩) (cell_lt c0)).trans c0
    replace hb := belowTo hb hb2
    clear hb2
    go_wp2_with fail
    refine Calls.mono (HH.out _ hb HK.out.1 HK.out.2) ?_
    rintro e w3 ⟨rfl, hb3⟩
    replace hb := belowTo hb hb3
    clear hb3 c0 c1
    go_wp2
    go_returns
    exact ⟨rfl, hb⟩
  · have HR : Hid ((polyB l && (vecB x y && K)) = false) := by show _ = _; rw [← Bool.and_assoc, hk]; rfl
    rw [hk] at HC
    clear hk HH
    rw [HR.out]
    go_enter Tryd.func24, Tryd.ntmps24
    go_wp2_with fail
    refine Calls.mono (HC.out _ _ (by go_grown) (by go_cell) (by go_cell) (by go_size)) ?_
    rintro e w1 ⟨he, hb1⟩
    obtain ⟨s, rfl⟩ : IsNone e := he
    have hb : Below w.heap.size w w1 := belowTo (by go_grown) hb1
    clear hb1
    go_wp2_with fail
    refine Calls.mono (none_hit s _ (hg.below hb)) ?_
    rintro e w2 ⟨rfl, hb2⟩
    replace hb := belowTo hb hb2
    clear hb2
    go_wp2
    go_returns
    exact ⟨rfl, hb⟩
end Go.Proofs.YtomadlpdlmbmjaaDoor
