/- Polygons: inner vectors and all vectors: Pick's formula at a list of corners; both sides. -/
import Derived.Test.YtomadlpdlmbmjaaDoorWk
import Derived.Test.YtomadlpdlmbmjaaDoorWq
import Derived.Test.YtomadlpdlmbmjaaDoorWg
namespace Go.Proofs.YtomadlpdlmbmjaaDoor
open Go.RowKit

theorem sumI_Z (f : Nat → Int) (n : Nat) : sumI f n = sumZ f n := by
  induction n with
  | zero => rfl
  | succ n ih => rw [sumI_succ, ih]; rfl
theorem mn_le (f : Nat → Int) : ∀ k i, i < k → mnI f k ≤ f i := by
  intro k
  induction k with
  | zero => omega
  | succ k ih =>
    intro i hi
    unfold mnI
    by_cases e : i = k
    · rw [e]; omega
    · have := ih i (by omega); omega
theorem mx_le (f : Nat → Int) : ∀ k i, i < k → f i ≤ mxI f k := by
  intro k
  induction k with
  | zero => omega
  | succ k ih =>
    intro i hi
    unfold mxI
    by_cases e : i = k
    · rw [e]; omega
    · have := ih i (by omega); omega
theorem mn_at {f : Nat → Int} (h : ∀ i, f i ≤ 100) : ∀ k, 0 < k → ∃ i, i < k ∧ f i = mnI f k := by
  intro k
  induction k with
  | zero => omega
  | succ k ih =>
    intro _
    unfold mnI
    by_cases h0 : k = 0
    · subst h0
      have := h 0
      exact ⟨0, by omega, by unfold mnI; omega⟩
    · obtain ⟨i, hi, e⟩ := ih (by omega)
      rcases Int.lt_or_le (f k) (mnI f k) with c | c
      · exact ⟨k, by omega, by omega⟩
      · exact ⟨i, by omega, by omega⟩
theorem mx_at {f : Nat → Int} (h : ∀ i, -100 ≤ f i) : ∀ k, 0 < k → ∃ i, i < k ∧ f i = mxI f k := by
  intro k
  induction k with
  | zero => omega
  | succ k ih =>
    intro _
    unfold mxI
    by_cases h0 : k = 0
    · subst h0
      have := h 0
      exact ⟨0, by omega, by unfold mxI; omega⟩
    · obtain ⟨i, hi, e⟩ := ih (by omega)
      rcases Int.lt_or_le (mxI f k) (f k) with c | c
      · exact ⟨k, by omega, by omega⟩
      · exact ⟨i, by omega, by omega⟩
theorem cnt_pick {l : List V2} (h : polyB l = true) : 2 * cntZ l 0 = areaZ l + edgeZ l l.length + 2 ∧ 2 * cntZ l 1 = areaZ l - edgeZ l l.length + 2 := by
  have h3 := poly_len h
  have hc := poly_conv h
  have hx : ∀ i, -100 ≤ xsZ l i ∧ xsZ l i ≤ 100 := fun i => (poly_small h i).1
  have hy : ∀ i, -100 ≤ ysZ l i ∧ ysZ l i ≤ 100 := fun i => (poly_small h i).2
  have xm : ∀ i, xsZ l (i % l.length) = xsZ l i := fun i => by unfold xsZ; rw [cyc_mod]
  have ym : ∀ i, ysZ l (i % l.length) = ysZ l i := fun i => by unfold ysZ; rw [cyc_mod]
  have x0 : ∀ i, mnI (xsZ l) l.length ≤ xsZ l i := fun i => by rw [← xm]; exact mn_le _ _ _ (Nat.mod_lt _ (by omega))
  have x1 : ∀ i, xsZ l i ≤ mxI (xsZ l) l.length := fun i => by rw [← xm]; exact mx_le _ _ _ (Nat.mod_lt _ (by omega))
  have y0 : ∀ i, mnI (ysZ l) l.length ≤ ysZ l i := fun i => by rw [← ym]; exact mn_le _ _ _ (Nat.mod_lt _ (by omega))
  have y1 : ∀ i, ysZ l i ≤ mxI (ysZ l) l.length := fun i => by rw [← ym]; exact mx_le _ _ _ (Nat.mod_lt _ (by omega))
  obtain ⟨i0, _, e0⟩ := mn_at (fun i => (hx i).2) l.length (by omega)
  obtain ⟨i1, _, e1⟩ := mx_at (fun i => (hx i).1) l.length (by omega)
  have w0 := x0 i1
  have v0 := y0 0
  have v1 := y1 0
  have hb : InBox (cyc l) (mnI (ysZ l) l.length) (mxI (ysZ l) l.length - mnI (ysZ l) l.length + 1).toNat := fun k => by
    have a := y0 k
    have b := y1 k
    unfold ysZ at *
    omega
  have hh := pick_all hc hb (x0 := mnI (xsZ l) l.length) (W := (mxI (xsZ l) l.length - mnI (xsZ l) l.length).toNat) (fun k => by
    have a := x0 k
    have b := x1 k
    unfold xsZ at *
    omega) ⟨i0, e0⟩ ⟨i1, by
    unfold xsZ at *
    omega⟩
  have eA : areaI (cyc l) l.length = areaZ l := sumI_Z _ _
  have eE : edgeI (cyc l) l.length = edgeZ l l.length := sumI_Z _ _
  have eW : (mxI (xsZ l) l.length - mnI (xsZ l) l.length + 1).toNat = (mxI (xsZ l) l.length - mnI (xsZ l) l.length).toNat + 1 := by omega
  rw [eA, eE] at hh
  unfold cntZ
  rw [eW]
  exact hh
theorem inner_cnt {l : List V2} (h : polyB l = true) : cntZ l 1 = innerZ l ∧ cntZ l 0 = innerZ l + edgeZ l l.length := by
  obtain ⟨a, b⟩ := cnt_pick h
  have e : innerZ l = cntZ l 1 := by
    unfold innerZ
    rw [show areaZ l - edgeZ l l.length + 2 = cntZ l 1 * 2 by omega]
    exact Int.mul_tdiv_cancel _ (by omega)
  omega
set_option maxHeartbeats 4000000 in
theorem specPolygonInner_any (v : Value) (l : List V2) (w : World) (h : ReadsVecs w v l) :
    Calls Tryd.prog 29 #[v] w fun e w' => e = .returned (.tuple #[.int .i64 (gate (polyB l) (innerZ l)), .bool (polyB l)]) ∧ Below w.heap.size w w' := by
  have HC := Lib.hid (specPolygonIn_any v l w h)
  have HE := Lib.hid (fun hp => inner_cnt (l := l) hp)
  have H0 := Lib.hid (fun w' (hb : Below w.heap.size w w') (hp : polyB l = true) => l6gCount_any v l 1 w' (h.below hb) hp)
  obtain ⟨a, c, rfl, _⟩ := h
  cases hk : polyB l
  · rw [hk] at HC
    clear hk H0
    go_enter Tryd.func29, Tryd.ntmps29
    go_wp2_with fail
    refine Calls.mono HC.out ?_
    rintro e w1 ⟨rfl, hb⟩
    go_wp2
    go_returns
    exact ⟨rfl, hb⟩
  · rw [hk] at HC
    have HK := Lib.hid hk
    have e : gate true (innerZ l) = cntZ l 1 := by rw [gate_true]; have := HE.out hk; omega
    rw [e]
    clear hk e HE
    generalize cntZ l 1 = z at *
    go_enter Tryd.func29, Tryd.ntmps29
    go_wp2_with fail
    refine Calls.mono HC.out ?_
    rintro e w1 ⟨rfl, hb⟩
    go_wp2_with fail
    refine Calls.mono (H0.out _ hb HK.out) ?_
    rintro e w3 ⟨rfl, hb3⟩
    replace hb := belowTo hb hb3
    clear hb3
    go_wp2
    go_returns
    exact ⟨rfl, hb⟩
set_option maxHeartbeats 4000000 in
theorem specPolygonCount_any (v : Value) (l : List V2) (w : World) (h : ReadsVecs w v l) :
    Calls Tryd.prog 31 #[v] w fun e w' => e = .returned (.tuple #[.int .i64 (gate (polyB l) (innerZ l + edgeZ l l.length)), .bool (polyB l)]) ∧ Below w.heap.size w w' := by
  have HC := Lib.hid (specPolygonIn_any v l w h)
  have HE := Lib.hid (fun hp => inner_cnt (l := l) hp)
  have H0 := Lib.hid (fun w' (hb : Below w.heap.size w w') (hp : polyB l = true) => l6gCount_any v l 0 w' (h.below hb) hp)
  obtain ⟨a, c, rfl, _⟩ := h
  cases hk : polyB l
  · rw [hk] at HC
    clear hk H0
    go_enter Tryd.func31, Tryd.ntmps31
    go_wp2_with fail
    refine Calls.mono HC.out ?_
    rintro e w1 ⟨rfl, hb⟩
    go_wp2
    go_returns
    exact ⟨rfl, hb⟩
  · rw [hk] at HC
    have HK := Lib.hid hk
    have e : gate true (innerZ l + edgeZ l l.length) = cntZ l 0 := by rw [gate_true]; have := HE.out hk; omega
    rw [e]
    clear hk e HE
    generalize cntZ l 0 = z at *
    go_enter Tryd.func31, Tryd.ntmps31
    go_wp2_with fail
    refine Calls.mono HC.out ?_
    rintro e w1 ⟨rfl, hb⟩
    go_wp2_with fail
    refine Calls.mono (H0.out _ hb HK.out) ?_
    rintro e w3 ⟨rfl, hb3⟩
    replace hb := belowTo hb hb3
    clear hb3
    go_wp2
    go_returns
    exact ⟨rfl, hb⟩
end Go.Proofs.YtomadlpdlmbmjaaDoor
