import Derived.Test.YtgaeibibeekclaaDoorBj
import Derived.Test.YtgaeibibeekclaaDoorBs
import Derived.Test.YtgaeibibeekclaaDoorWf
import Derived.StillTailTactics
import Derived.Test.YtgaeibibeekclaaDoorBh
/- Polygons: edges, normals, the exported functions: the program. -/
namespace Go.Proofs.YtgaeibibeekclaaDoor
open Go.RowKit

theorem polyEnd_cases {b : Bool} {e : Ending} (h : PolyEnd b e) : (b = true ∧ e = .returned .nilIface) ∨ (b = false ∧ ∃ s, e = .returned (.iface 80 (.agg #[.string s]))) := polyEnd_of h
theorem way_nz {l : List V2} (h : polyB l = true) (i : Nat) : ¬ ((wayZ l i).1 = 0 ∧ (wayZ l i).2 = 0) := by
  rintro ⟨h1, h2⟩
  have t : 0 < detV (wayZ l i) (wayZ l (i + 1)) := (poly_conv h).turn i
  unfold detV detZ at t
  rw [h1, h2] at t
  omega
theorem way_vec {l : List V2} (h : polyB l = true) (i : Nat) : vecB (wayZ l i).1 (wayZ l i).2 = true := vec_of (by have := way_small (allK_all (poly_in h).2.1 (by have := poly_len h; omega)) i; omega)
/-- the vectors on the edges -/
def edgeZ (l : List V2) (k : Nat) : Int := sumZ (fun i => gcdZ (wayZ l i).1 (wayZ l i).2) k
theorem edge_bnd {l : List V2} (h : polyB l = true) : ∀ k, 0 ≤ edgeZ l k ∧ edgeZ l k ≤ 1000 * k := by
  intro k
  induction k with
  | zero => exact ⟨Int.le_refl _, Int.le_refl _⟩
  | succ k ih =>
    have := szs (way_vec h k)
    have a := gcdZ_le (n := 1000) this.1 this.2
    have b := gcdZ_nonneg (wayZ l k).1 (wayZ l k).2
    unfold edgeZ at *
    rw [show sumZ (fun i => gcdZ (wayZ l i).1 (wayZ l i).2) (k + 1) = sumZ (fun i => gcdZ (wayZ l i).1 (wayZ l i).2) k + gcdZ (wayZ l k).1 (wayZ l k).2 from rfl]
    omega
theorem poly_allV {l : List V2} (h : polyB l = true) : allV l = true := allV_good (fun k _ => poly_vec h k)
set_option maxHeartbeats 4000000 in
theorem polyArea_any (v : Value) (l : List V2) (w : World) (h : ReadsVecs w v l) (hp : polyB l = true) :
    Calls Tryd.prog 47 #[v] w fun e w' => e = .returned (.int .i64 (areaZ l)) ∧ Below w.heap.size w w' := by
  have h30 := poly_len hp
  have HA := Lib.hid (area_any v l w h (by omega) (by omega) (poly_allV hp))
  obtain ⟨a, c, rfl, _⟩ := h
  generalize areaZ l = z at *
  clear hp
  go_enter Tryd.func47, Tryd.ntmps47
  go_wp2_with fail
  refine Calls.mono HA.out ?_
  rintro e w1 ⟨rfl, hb1⟩
  go_wp2
  go_returns
  exact ⟨rfl, hb1⟩
/-- the inner vectors, by Pick's formula -/
def innerZ (l : List V2) : Int := (areaZ l - edgeZ l l.length + 2).tdiv 2
theorem poly_nums {l : List V2} (h : polyB l = true) : (-2000000000 ≤ areaZ l ∧ areaZ l ≤ 2000000000) ∧ 0 ≤ edgeZ l l.length ∧ edgeZ l l.length ≤ 30000 := by
  have h30 := poly_len h
  have a := area_bnd (poly_allV h) (by omega) (k := l.length) (by omega)
  have b := edge_bnd h l.length
  exact ⟨a, b.1, by omega⟩
end Go.Proofs.YtgaeibibeekclaaDoor

/- Polygons: the exported functions that tell numbers: the program. -/
namespace Go.Proofs.YtgaeibibeekclaaDoor
open Go.RowKit

set_option maxHeartbeats 4000000 in
theorem polygonArea_any (v : Value) (l : List V2) (w : World) (h : ReadsVecs w v l) (hg : EtOk w) :
    Calls Tryd.prog 17 #[v] w fun e w' => e = .returned (.tuple #[.int .i64 (gate (polyB l) (areaZ l)), .bool (polyB l)]) ∧ Below w.heap.size w w' := by
  have HC := Lib.hid (polyCheck_any v l w h)
  have H0 := Lib.hid (fun w' (hb : Below w.heap.size w w') (hp : polyB l = true) => polyArea_any v l w' (h.below hb) hp)
  obtain ⟨a, c, rfl, _⟩ := h
  generalize areaZ l = z at *
  cases hk : polyB l
  · rw [hk] at HC
    clear hk H0
    go_enter Tryd.func17, Tryd.ntmps17
    go_wp2_with fail
    refine Calls.mono HC.out ?_
    rintro e w1 ⟨⟨s, rfl⟩, hb1⟩
    go_wp2_with fail
    refine Calls.mono (none_hit s _ (hg.below hb1)) ?_
    rintro e w2 ⟨rfl, hb2⟩
    have hb := belowTo hb1 hb2
    clear hb1 hb2
    go_wp2
    go_returns
    exact ⟨rfl, hb⟩
  · rw [hk] at HC
    have HK := Lib.hid hk
    clear hk
    have HC2 := Lib.hid (HC.out.mono (fun e w' h => (⟨h.1, h.2⟩ : e = .returned .nilIface ∧ Below w.heap.size w w')))
    clear HC
    go_enter Tryd.func17, Tryd.ntmps17
    go_wp2_with fail
    refine Calls.mono HC2.out ?_
    rintro e w1 ⟨rfl, hb⟩
    go_wp2_with fail
    refine Calls.mono (none_nil _) ?_
    rintro e w2 ⟨rfl, hb2⟩
    replace hb := belowTo hb hb2
    clear hb2
    go_wp2_with fail
    refine Calls.mono (H0.out _ hb HK.out) ?_
    rintro e w3 ⟨rfl, hb3⟩
    replace hb := belowTo hb hb3
    clear hb3
    go_wp2
    go_returns
    exact ⟨rfl, hb⟩
set_option maxHeartbeats 4000000 in
theorem polygonHas_any (v : Value) (l : List V2) (x y : Int) (w : World) (h : ReadsVecs w v l) (hg : EtOk w) :
    Calls Tryd.prog 13 #[v, .agg #[.int .i64 (x), .int .i64 (y)]] w fun e w' => e = .returned (.bool (polyB l && (vecB x y && hasPB l (x, y)))) ∧ Below w.heap.size w w' := by
  have HC := Lib.hid (fun B w' (hb : Below w.heap.size w w') c0 c1 hB => checkAll_pv v l x y B w' (h.below hb) c0 c1 hB)
  have HH := Lib.hid (fun w' (hb : Below w.heap.size w w') hp hv => polyHas_any v l x y w' (h.below hb) hp hv)
  obtain ⟨a, c, rfl, _⟩ := h
  generalize hasPB l (x, y) = K at *
  have key : (polyB l && vecB x y) = true ∨ (polyB l && vecB x y) = false := by cases (polyB l && vecB x y) <;> simp
  rcases key with hk | hk
  · have hk2 : polyB l = true ∧ vecB x y = true := by simpa using hk
    have HK := Lib.hid hk2
    have HR : Hid ((polyB l && (vecB x y && K)) = K) := by show _ = _; rw [hk2.1, hk2.2]; rfl
    rw [hk] at HC
    clear hk hk2
    rw [HR.out]
    go_enter Tryd.func13, Tryd.ntmps13
    go_wp2_with fail
    refine Calls.mono (HC.out _ _ (by go_grown) (by go_cell) (by go_cell) (by go_size)) ?_
    rintro e w1 ⟨he, hb1⟩
    obtain rfl : e = .returned .nilIface := he
    have hb : Below w.heap.size w w1 := belowTo (by go_grown) hb1
    have c0 : w1.cell? ⟨w.heap.size, 0, none⟩ = some (.int .i64 x) := (hb1.cell (p := ⟨w.heap.size, 0, none⟩) (by simp; omega)).trans (by first | (go_cell; done) | (go_simp; done) | (simp; done))
    have c1 : w1.cell? ⟨w.heap.size, 1, none⟩ = some (.int .i64 y) := (hb1.cell (p := ⟨w.heap.size, 1, none⟩) (by simp; omega)).trans (by first | (go_cell; done) | (go_simp; done) | (simp; done))
    clear hb1
    go_wp2_with fail
    refine Calls.mono (none_nil _) ?_
    rintro e w2 ⟨rfl, hb2⟩
    replace c1 := (hb2.cell (p := ⟨w.heap.size, 1, none⟩) (cell_lt c0)).trans c1
    replace c0 := (hb2.cell (p := ⟨w.heap.size, 0, none⟩) (cell_lt c0)).trans c0
    replace hb := belowTo hb hb2
    clear hb2
    go_wp2_with fail
    refine Calls.mono (HH.out _ hb HK.out.1 HK.out.2) ?_
    rintro e w3 ⟨rfl, hb3⟩
    replace hb := belowTo hb hb3
    clear hb3 c0 c1
    go_wp2
    go_returns
    exact ⟨rfl, hb⟩
  · have HR : Hid ((polyB l && (vecB x y && K)) = false) := by show _ = _; rw [← Bool.and_assoc, hk]; rfl
    rw [hk] at HC
    clear hk HH
    rw [HR.out]
    go_enter Tryd.func13, Tryd.ntmps13
    go_wp2_with fail
    refine Calls.mono (HC.out _ _ (by go_grown) (by go_cell) (by go_cell) (by go_size)) ?_
    rintro e w1 ⟨he, hb1⟩
    obtain ⟨s, rfl⟩ : IsNone e := he
    have hb : Below w.heap.size w w1 := belowTo (by go_grown) hb1
    clear hb1
    go_wp2_with fail
    refine Calls.mono (none_hit s _ (hg.below hb)) ?_
    rintro e w2 ⟨rfl, hb2⟩
    replace hb := belowTo hb hb2
    clear hb2
    go_wp2
    go_returns
    exact ⟨rfl, hb⟩
end Go.Proofs.YtgaeibibeekclaaDoor

/- Polygons, the model's side: areas, edges, vectors. -/
namespace Go.Proofs.YtgaeibibeekclaaDoor
open Go.RowKit

set_option maxHeartbeats 1000000 in
theorem l1DetBig_any (x1 y1 x2 y2 : Int) (w : World) (h1 : big 800000 x1 y1) (h2 : big 800000 x2 y2) :
    Calls Tryd.prog 50 #[.agg #[.int .i64 (x1), .int .i64 (y1)], .agg #[.int .i64 (x2), .int .i64 (y2)]] w fun e w' => e = .returned (.int .i64 (detZ x1 y1 x2 y2)) ∧ Below w.heap.size w w' := by
  obtain ⟨_, _⟩ := mul_big h1.1 h2.2
  obtain ⟨_, _⟩ := mul_big h1.2 h2.1
  clear h1 h2
  go_enter Tryd.func50, Tryd.ntmps50
  go_wp2
  go_returns
  exact ⟨rfl, by go_grown⟩
/-- the least determinant -/
def leastZ (l : List V2) (z : V2) : Nat → Int
  | 0 => sideZ (cyc l) 0 z
  | k + 1 => min (leastZ l z k) (sideZ (cyc l) (k + 1) z)
theorem least_iff {l : List V2} {z : V2} {s : Int} : ∀ k, s ≤ leastZ l z k ↔ ∀ i, i ≤ k → s ≤ sideZ (cyc l) i z := by
  intro k
  induction k with
  | zero =>
    constructor
    · intro h i hi
      obtain rfl : i = 0 := by omega
      exact h
    · intro h; exact h 0 (Nat.le_refl _)
  | succ k ih =>
    have e : leastZ l z (k + 1) = min (leastZ l z k) (sideZ (cyc l) (k + 1) z) := rfl
    constructor
    · intro h i hi
      by_cases c : i = k + 1
      · rw [c]; omega
      · exact ih.1 (by omega) i (by omega)
    · intro h
      have a := ih.2 (fun i hi => h i (by omega))
      have b := h (k + 1) (Nat.le_refl _)
      omega
theorem least_ins {l : List V2} {z : V2} {s : Int} (h0 : 0 < l.length) : decide (s ≤ leastZ l z (l.length - 1)) = insB (cyc l) l.length s z := by
  rw [Bool.eq_iff_iff, decide_eq_true_eq, least_iff, ins_iff]
  exact ⟨fun h k hk => h k (by omega), fun h k hk => h k (by omega)⟩
set_option maxRecDepth 100000 in
set_option maxHeartbeats 32000000 in
theorem l6gLeast_any (v : Value) (l : List V2) (x y : Int) (w : World) (h : ReadsVecs w v l) (hp : polyB l = true) (hv : vecB x y = true) :
    Calls Tryd.prog 57 #[v, .agg #[.int .i64 (x), .int .i64 (y)]] w fun e w' => e = .returned (.int .i64 (leastZ l (x, y) (l.length - 1))) ∧ Below w.heap.size w w' := by
  have h30 := poly_len hp
  have h0 : 0 < l.length := by omega
  obtain ⟨bb, off, vc, rfl, _, _, hbv, hvs⟩ := h.open h0
  have HVS := Lib.hid hvs
  have HMb := Lib.hid (fun i => poly_small hp i)
  have hxy := szs hv
  obtain ⟨K, hK⟩ : ∃ K, K = l.length - 1 := ⟨_, rfl⟩
  rw [← hK]
  have HL0 : Hid (leastZ l (x, y) 0 = detZ ((cyc l 1).1 - (cyc l 0).1) ((cyc l 1).2 - (cyc l 0).2) (x - (cyc l 0).1) (y - (cyc l 0).2)) := rfl
  have HLs : Hid (∀ k, leastZ l (x, y) (k + 1) = min (leastZ l (x, y) k) (detZ ((cyc l (k + 1 + 1)).1 - (cyc l (k + 1)).1) ((cyc l (k + 1 + 1)).2 - (cyc l (k + 1)).2) (x - (cyc l (k + 1)).1) (y - (cyc l (k + 1)).2))) := fun _ => rfl
  clear h hp hv hvs
  generalize leastZ l (x, y) = Q at *
  obtain ⟨W0, hW0⟩ : ∃ W0, W0 = w.alloc (.cells #[.int .i64 x, .int .i64 y] 31) := ⟨_, rfl⟩
  have a0 : W0.cell? ⟨w.heap.size, 0, none⟩ = some (.int .i64 x) := by rw [hW0]; simp
  have a1 : W0.cell? ⟨w.heap.size, 1, none⟩ = some (.int .i64 y) := by rw [hW0]; simp
  have hB0 : Below w.heap.size w W0 := by rw [hW0]; go_grown
  have HB0 := Lib.hid hB0
  have HA0 := Lib.hid a0
  have HA1 := Lib.hid a1
  obtain ⟨d0, d1⟩ := HVS.out W0 hB0 0 h0
  obtain ⟨d2, d3⟩ := HVS.out W0 hB0 1 (by omega)
  have b0 := HMb.out 0
  have b1 := HMb.out 1
  have HL0' := Lib.hid HL0.out
  generalize cyc l 0 = V at d0 d1 b0 HL0'
  generalize cyc l 1 = U at d2 d3 b1 HL0'
  obtain ⟨x1, y1⟩ := V
  obtain ⟨x2, y2⟩ := U
  dsimp only at d0 d1 d2 d3 HL0' b0 b1
  have B0 : big 400000 x1 y1 := by unfold big; omega
  have B1 : big 400000 x2 y2 := by unfold big; omega
  have B2 : big 400000 x y := by unfold big; omega
  have B3 : big 800000 (x2 - x1) (y2 - y1) := by unfold big; omega
  have B4 : big 800000 (x - x1) (y - y1) := by unfold big; omega
  have HD := Lib.hid (fun w' => l1DetBig_any (x2 - x1) (y2 - y1) (x - x1) (y - y1) w' B3 B4)
  have n1 : (1 : Int) < (l.length : Int) := by omega
  have n0 : (0 : Int) < (l.length : Int) := by omega
  have n1' : 1 < l.length := by omega
  have tt0 := cell_lt d0
  have tt1 := cell_lt a0
  clear b0 b1 B3 B4 HL0
  simp only [Nat.zero_mul, Nat.add_zero, Nat.one_mul] at d0 d1 d2 d3
  go_enter Tryd.func57, Tryd.ntmps57
  go_upto_region 1 with fail
  rw [← hW0]
  clear hW0
  go_region_held3 (fun w' => w'.cell? ⟨bb, off, none⟩ = some (.int .i64 (x1)) ∧ w'.cell? ⟨bb, off + 1, none⟩ = some (.int .i64 (y1)) ∧ w'.cell? ⟨bb, off + 2, none⟩ = some (.int .i64 (x2)) ∧ w'.cell? ⟨bb, off + 2 + 1, none⟩ = some (.int .i64 (y2)) ∧ w'.cell? ⟨w.heap.size, 0, none⟩ = some (.int .i64 (x)) ∧ w'.cell? ⟨w.heap.size, 1, none⟩ = some (.int .i64 (y)) ∧ Below (w.heap.size) W0 w') ((go_split_ands; refine ⟨by (first | (with_reducible assumption) | (go_keep; done) | (go_cell; done) | (go_simp; done) | (simp [*]; done)), by (first | (with_reducible assumption) | (go_keep; done) | (go_cell; done) | (go_simp; done) | (simp [*]; done)), by (first | (with_reducible assumption) | (go_keep; done) | (go_cell; done) | (go_simp; done) | (simp [*]; done)), by (first | (with_reducible assumption) | (go_keep; done) | (go_cell; done) | (go_simp; done) | (simp [*]; done)), by (first | (with_reducible assumption) | (go_keep; done) | (go_cell; done) | (go_simp; done) | (simp [*]; done)), by (first | (with_reducible assumption) | (go_keep; done) | (go_cell; done) | (go_simp; done) | (simp [*]; done)), by first | (with_reducible assumption) | (go_grown; done)⟩)) (first | (go_at_call 49; go_call (l6gWay_any _ _ _ _ _ (by assumption) (by assumption)) as e w1 ⟨rfl, hb0⟩; go_split_ands; have q0 : w1.cell? ⟨bb, off, none⟩ = some (.int .i64 (x1)) := (hb0.cell (p := ⟨bb, off, none⟩) (by first | (with_reducible assumption) | (go_size; done) | (simp; omega))).trans (by first | (with_reducible assumption) | (go_keep; done) | (go_cell; done) | (go_simp; done) | (simp [*]; done)); have q1 : w1.cell? ⟨bb, off + 1, none⟩ = some (.int .i64 (y1)) := (hb0.cell (p := ⟨bb, off + 1, none⟩) (by first | (with_reducible assumption) | (go_size; done) | (simp; omega))).trans (by first | (with_reducible assumption) | (go_keep; done) | (go_cell; done) | (go_simp; done) | (simp [*]; done)); have q2 : w1.cell? ⟨bb, off + 2, none⟩ = some (.int .i64 (x2)) := (hb0.cell (p := ⟨bb, off + 2, none⟩) (by first | (with_reducible assumption) | (go_size; done) | (simp; omega))).trans (by first | (with_reducible assumption) | (go_keep; done) | (go_cell; done) | (go_simp; done) | (simp [*]; done)); have q3 : w1.cell? ⟨bb, off + 2 + 1, none⟩ = some (.int .i64 (y2)) := (hb0.cell (p := ⟨bb, off + 2 + 1, none⟩) (by first | (with_reducible assumption) | (go_size; done) | (simp; omega))).trans (by first | (with_reducible assumption) | (go_keep; done) | (go_cell; done) | (go_simp; done) | (simp [*]; done)); have q4 : w1.cell? ⟨w.heap.size, 0, none⟩ = some (.int .i64 (x)) := (hb0.cell (p := ⟨w.heap.size, 0, none⟩) (by first | (with_reducible assumption) | (go_size; done) | (simp; omega))).trans (by first | (with_reducible assumption) | (go_keep; done) | (go_cell; done) | (go_simp; done) | (simp [*]; done)); have q5 : w1.cell? ⟨w.heap.size, 1, none⟩ = some (.int .i64 (y)) := (hb0.cell (p := ⟨w.heap.size, 1, none⟩) (by first | (with_reducible assumption) | (go_size; done) | (simp; omega))).trans (by first | (with_reducible assumption) | (go_keep; done) | (go_cell; done) | (go_simp; done) | (simp [*]; done)); have hs0 : bb < w1.heap.size := Nat.lt_of_lt_of_le (by first | (with_reducible assumption) | (go_size; done) | (simp; omega)) hb0.size; have hs1 : w.heap.size < w1.heap.size := Nat.lt_of_lt_of_le (by first | (with_reducible assumption) | (go_size; done) | (simp; omega)) hb0.size; have hT : Below (w.heap.size) W0 w1 := Below.trans (by first | (with_reducible assumption) | (go_grown; done)) (hb0.mono (by first | (with_reducible assumption) | (go_size; done) | (simp; omega) | omega)); have hTs := hT.size; (try have hT2 : Below W0.heap.size W0 w1 := belowTo (by first | (with_reducible assumption) | (go_grown; done)) hb0); clear hb0) | (go_at_call 50; go_call (HD.out _) as e w1 ⟨rfl, hb0⟩; go_split_ands; have q0 : w1.cell? ⟨bb, off, none⟩ = some (.int .i64 (x1)) := (hb0.cell (p := ⟨bb, off, none⟩) (by first | (with_reducible assumption) | (go_size; done) | (simp; omega))).trans (by first | (with_reducible assumption) | (go_keep; done) | (go_cell; done) | (go_simp; done) | (simp [*]; done)); have q1 : w1.cell? ⟨bb, off + 1, none⟩ = some (.int .i64 (y1)) := (hb0.cell (p := ⟨bb, off + 1, none⟩) (by first | (with_reducible assumption) | (go_size; done) | (simp; omega))).trans (by first | (with_reducible assumption) | (go_keep; done) | (go_cell; done) | (go_simp; done) | (simp [*]; done)); have q2 : w1.cell? ⟨bb, off + 2, none⟩ = some (.int .i64 (x2)) := (hb0.cell (p := ⟨bb, off + 2, none⟩) (by first | (with_reducible assumption) | (go_size; done) | (simp; omega))).trans (by first | (with_reducible assumption) | (go_keep; done) | (go_cell; done) | (go_simp; done) | (simp [*]; done)); have q3 : w1.cell? ⟨bb, off + 2 + 1, none⟩ = some (.int .i64 (y2)) := (hb0.cell (p := ⟨bb, off + 2 + 1, none⟩) (by first | (with_reducible assumption) | (go_size; done) | (simp; omega))).trans (by first | (with_reducible assumption) | (go_keep; done) | (go_cell; done) | (go_simp; done) | (simp [*]; done)); have q4 : w1.cell? ⟨w.heap.size, 0, none⟩ = some (.int .i64 (x)) := (hb0.cell (p := ⟨w.heap.size, 0, none⟩) (by first | (with_reducible assumption) | (go_size; done) | (simp; omega))).trans (by first | (with_reducible assumption) | (go_keep; done) | (go_cell; done) | (go_simp; done) | (simp [*]; done)); have q5 : w1.cell? ⟨w.heap.size, 1, none⟩ = some (.int .i64 (y)) := (hb0.cell (p := ⟨w.heap.size, 1, none⟩) (by first | (with_reducible assumption) | (go_size; done) | (simp; omega))).trans (by first | (with_reducible assumption) | (go_keep; done) | (go_cell; done) | (go_simp; done) | (simp [*]; done)); have hs0 : bb < w1.heap.size := Nat.lt_of_lt_of_le (by first | (with_reducible assumption) | (go_size; done) | (simp; omega)) hb0.size; have hs1 : w.heap.size < w1.heap.size := Nat.lt_of_lt_of_le (by first | (with_reducible assumption) | (go_size; done) | (simp; omega)) hb0.size; have hT : Below (w.heap.size) W0 w1 := Below.trans (by first | (with_reducible assumption) | (go_grown; done)) (hb0.mono (by first | (with_reducible assumption) | (go_size; done) | (simp; omega) | omega)); have hTs := hT.size; (try have hT2 : Below W0.heap.size W0 w1 := belowTo (by first | (with_reducible assumption) | (go_grown; done)) hb0); clear hb0))
  rw [← HL0'.out]
  have hB1 := HB0.out.trans hT
  clear hT hTs B0 B1 d0 d1 d2 d3 HL0' HD tt0 tt1
  have ha0 : w1.cell? ⟨w.heap.size, 0, none⟩ = some (.int .i64 x) := by assumption
  have ha1 : w1.cell? ⟨w.heap.size, 1, none⟩ = some (.int .i64 y) := by assumption
  have HA0 := Lib.hid ha0
  have HA1 := Lib.hid ha1
  have hwz : w.heap.size < w1.heap.size := cell_lt ha0
  clear ha0 ha1
  generalize w1 = W1 at *
  go_wp2
  go_loopw [5, 6] (fun s5 s6 wr => ∃ k : Nat, k + 1 ≤ l.length ∧ s5 = .int .i64 (Q k) ∧ s6 = .int .i64 ((k + 1 : Nat) : Int) ∧ Below W1.heap.size W1 wr) (fun _ s6 _ => l.length - (intOf s6).toNat)
  case atStart => exact ⟨0, (by omega), rfl, rfl, Below.refl _ _⟩
  case round =>
    obtain ⟨k, hk, rfl, rfl, hB⟩ := hrel
    have hBw := hB1.trans (hB.mono hB1.size)
    have i1 : (0 : Int) ≤ ((k + 1 : Nat) : Int) := by omega
    by_cases hlt : k + 1 < l.length
    · have i2 : ((k + 1 : Nat) : Int) < (l.length : Int) := by omega
      have hq : (k + 1 + 1) % l.length < l.length := Nat.mod_lt _ h0
      have j3 : (0 : Int) ≤ (((k + 1 + 1) % l.length : Nat) : Int) := by omega
      have j4 : (((k + 1 + 1) % l.length : Nat) : Int) < (l.length : Int) := by omega
      have j5 : ¬ (l.length : Int) = 0 := by omega
      have j6 : ((l.length : Int) == 0) = false := by simpa using j5
      have j7 : ¬ l.length = 0 := by omega
      have t2 := next_is (k + 1) l.length
      have q0 : IntKind.i64.wrap (((k + 1 : Nat) : Int) + 1) = ((k + 1 : Nat) : Int) + 1 := by rw [IntKind.wrap_i64]; omega
      obtain ⟨d0, d1⟩ := HVS.out wr hBw (k + 1) hlt
      obtain ⟨d2, d3⟩ := HVS.out wr hBw _ hq
      rw [cyc_mod] at d2 d3
      have a1 := (hB.cell (p := ⟨w.heap.size, 1, none⟩) hwz).trans HA1.out
      have a0 := (hB.cell (p := ⟨w.heap.size, 0, none⟩) hwz).trans HA0.out
      have b0 := HMb.out (k + 1)
      have b1 := HMb.out (k + 1 + 1)
      have HLk := Lib.hid (HLs.out k)
      generalize cyc l (k + 1) = V at *
      generalize cyc l (k + 1 + 1) = U at *
      obtain ⟨x1, y1⟩ := V
      obtain ⟨x2, y2⟩ := U
      dsimp only at d0 d1 d2 d3 HLk b0 b1
      generalize hkk : k + 1 = k1 at *
      generalize (k1 + 1) % l.length = q at *
      have B0 : big 400000 x1 y1 := by unfold big; omega
      have B1 : big 400000 x2 y2 := by unfold big; omega
      have B3 : big 800000 (x2 - x1) (y2 - y1) := by unfold big; omega
      have B4 : big 800000 (x - x1) (y - y1) := by unfold big; omega
      have HD := Lib.hid (fun w' => l1DetBig_any (x2 - x1) (y2 - y1) (x - x1) (y - y1) w' B3 B4)
      generalize hDD : detZ (x2 - x1) (y2 - y1) (x - x1) (y - y1) = D at HD HLk
      have tt0 := cell_lt d0
      have tt1 := cell_lt d2
      have tt2 := cell_lt a0
      have HQk := Lib.hid (rfl : Q k = Q k)
      generalize hQk : Q k = QK at *
      have HKK := Lib.hid hkk
      have hs := hB.size
      clear hDD b0 b1 B3 B4 HMb HLs HVS HA0 HA1 hkk hQk HQk
      go_wp2
      go_region_held3 (fun w' => w'.cell? ⟨bb, off + k1 * 2, none⟩ = some (.int .i64 (x1)) ∧ w'.cell? ⟨bb, off + k1 * 2 + 1, none⟩ = some (.int .i64 (y1)) ∧ w'.cell? ⟨bb, off + q * 2, none⟩ = some (.int .i64 (x2)) ∧ w'.cell? ⟨bb, off + q * 2 + 1, none⟩ = some (.int .i64 (y2)) ∧ w'.cell? ⟨w.heap.size, 0, none⟩ = some (.int .i64 (x)) ∧ w'.cell? ⟨w.heap.size, 1, none⟩ = some (.int .i64 (y)) ∧ Below (W1.heap.size) wr w') ((go_split_ands; refine ⟨by (first | (with_reducible assumption) | (go_keep; done) | (go_cell; done) | (go_simp; done) | (simp [*]; done)), by (first | (with_reducible assumption) | (go_keep; done) | (go_cell; done) | (go_simp; done) | (simp [*]; done)), by (first | (with_reducible assumption) | (go_keep; done) | (go_cell; done) | (go_simp; done) | (simp [*]; done)), by (first | (with_reducible assumption) | (go_keep; done) | (go_cell; done) | (go_simp; done) | (simp [*]; done)), by (first | (with_reducible assumption) | (go_keep; done) | (go_cell; done) | (go_simp; done) | (simp [*]; done)), by (first | (with_reducible assumption) | (go_keep; done) | (go_cell; done) | (go_simp; done) | (simp [*]; done)), by first | (with_reducible assumption) | (go_grown; done)⟩)) (first | (go_at_call 49; go_call (l6gWay_any _ _ _ _ _ (by assumption) (by assumption)) as e w1 ⟨rfl, hb0⟩; go_split_ands; have q0 : w1.cell? ⟨bb, off + k1 * 2, none⟩ = some (.int .i64 (x1)) := (hb0.cell (p := ⟨bb, off + k1 * 2, none⟩) (by first | (with_reducible assumption) | (go_size; done) | (simp; omega))).trans (by first | (with_reducible assumption) | (go_keep; done) | (go_cell; done) | (go_simp; done) | (simp [*]; done)); have q1 : w1.cell? ⟨bb, off + k1 * 2 + 1, none⟩ = some (.int .i64 (y1)) := (hb0.cell (p := ⟨bb, off + k1 * 2 + 1, none⟩) (by first | (with_reducible assumption) | (go_size; done) | (simp; omega))).trans (by first | (with_reducible assumption) | (go_keep; done) | (go_cell; done) | (go_simp; done) | (simp [*]; done)); have q2 : w1.cell? ⟨bb, off + q * 2, none⟩ = some (.int .i64 (x2)) := (hb0.cell (p := ⟨bb, off + q * 2, none⟩) (by first | (with_reducible assumption) | (go_size; done) | (simp; omega))).trans (by first | (with_reducible assumption) | (go_keep; done) | (go_cell; done) | (go_simp; done) | (simp [*]; done)); have q3 : w1.cell? ⟨bb, off + q * 2 + 1, none⟩ = some (.int .i64 (y2)) := (hb0.cell (p := ⟨bb, off + q * 2 + 1, none⟩) (by first | (with_reducible assumption) | (go_size; done) | (simp; omega))).trans (by first | (with_reducible assumption) | (go_keep; done) | (go_cell; done) | (go_simp; done) | (simp [*]; done)); have q4 : w1.cell? ⟨w.heap.size, 0, none⟩ = some (.int .i64 (x)) := (hb0.cell (p := ⟨w.heap.size, 0, none⟩) (by first | (with_reducible assumption) | (go_size; done) | (simp; omega))).trans (by first | (with_reducible assumption) | (go_keep; done) | (go_cell; done) | (go_simp; done) | (simp [*]; done)); have q5 : w1.cell? ⟨w.heap.size, 1, none⟩ = some (.int .i64 (y)) := (hb0.cell (p := ⟨w.heap.size, 1, none⟩) (by first | (with_reducible assumption) | (go_size; done) | (simp; omega))).trans (by first | (with_reducible assumption) | (go_keep; done) | (go_cell; done) | (go_simp; done) | (simp [*]; done)); have hs0 : bb < w1.heap.size := Nat.lt_of_lt_of_le (by first | (with_reducible assumption) | (go_size; done) | (simp; omega)) hb0.size; have hs1 : w.heap.size < w1.heap.size := Nat.lt_of_lt_of_le (by first | (with_reducible assumption) | (go_size; done) | (simp; omega)) hb0.size; have hT : Below (W1.heap.size) wr w1 := Below.trans (by first | (with_reducible assumption) | (go_grown; done)) (hb0.mono (by first | (with_reducible assumption) | (go_size; done) | (simp; omega) | omega)); have hTs := hT.size; (try have hT2 : Below wr.heap.size wr w1 := belowTo (by first | (with_reducible assumption) | (go_grown; done)) hb0); clear hb0) | (go_at_call 50; go_call (HD.out _) as e w1 ⟨rfl, hb0⟩; go_split_ands; have q0 : w1.cell? ⟨bb, off + k1 * 2, none⟩ = some (.int .i64 (x1)) := (hb0.cell (p := ⟨bb, off + k1 * 2, none⟩) (by first | (with_reducible assumption) | (go_size; done) | (simp; omega))).trans (by first | (with_reducible assumption) | (go_keep; done) | (go_cell; done) | (go_simp; done) | (simp [*]; done)); have q1 : w1.cell? ⟨bb, off + k1 * 2 + 1, none⟩ = some (.int .i64 (y1)) := (hb0.cell (p := ⟨bb, off + k1 * 2 + 1, none⟩) (by first | (with_reducible assumption) | (go_size; done) | (simp; omega))).trans (by first | (with_reducible assumption) | (go_keep; done) | (go_cell; done) | (go_simp; done) | (simp [*]; done)); have q2 : w1.cell? ⟨bb, off + q * 2, none⟩ = some (.int .i64 (x2)) := (hb0.cell (p := ⟨bb, off + q * 2, none⟩) (by first | (with_reducible assumption) | (go_size; done) | (simp; omega))).trans (by first | (with_reducible assumption) | (go_keep; done) | (go_cell; done) | (go_simp; done) | (simp [*]; done)); have q3 : w1.cell? ⟨bb, off + q * 2 + 1, none⟩ = some (.int .i64 (y2)) := (hb0.cell (p := ⟨bb, off + q * 2 + 1, none⟩) (by first | (with_reducible assumption) | (go_size; done) | (simp; omega))).trans (by first | (with_reducible assumption) | (go_keep; done) | (go_cell; done) | (go_simp; done) | (simp [*]; done)); have q4 : w1.cell? ⟨w.heap.size, 0, none⟩ = some (.int .i64 (x)) := (hb0.cell (p := ⟨w.heap.size, 0, none⟩) (by first | (with_reducible assumption) | (go_size; done) | (simp; omega))).trans (by first | (with_reducible assumption) | (go_keep; done) | (go_cell; done) | (go_simp; done) | (simp [*]; done)); have q5 : w1.cell? ⟨w.heap.size, 1, none⟩ = some (.int .i64 (y)) := (hb0.cell (p := ⟨w.heap.size, 1, none⟩) (by first | (with_reducible assumption) | (go_size; done) | (simp; omega))).trans (by first | (with_reducible assumption) | (go_keep; done) | (go_cell; done) | (go_simp; done) | (simp [*]; done)); have hs0 : bb < w1.heap.size := Nat.lt_of_lt_of_le (by first | (with_reducible assumption) | (go_size; done) | (simp; omega)) hb0.size; have hs1 : w.heap.size < w1.heap.size := Nat.lt_of_lt_of_le (by first | (with_reducible assumption) | (go_size; done) | (simp; omega)) hb0.size; have hT : Below (W1.heap.size) wr w1 := Below.trans (by first | (with_reducible assumption) | (go_grown; done)) (hb0.mono (by first | (with_reducible assumption) | (go_size; done) | (simp; omega) | omega)); have hTs := hT.size; (try have hT2 : Below wr.heap.size wr w1 := belowTo (by first | (with_reducible assumption) | (go_grown; done)) hb0); clear hb0))
      have hBk := hB.trans hT
      clear hT hTs B0 B1 d0 d1 d2 d3
      go_wp2
      all_goals
        go_roundw
        case rel => exact ⟨k + 1, by have := HKK.out; omega, by rw [HKK.out, HLk.out]; congr 1; split <;> omega, by have := HKK.out; go_num, hBk⟩
        case measure => have := HKK.out; simp [intOf]; omega
    · have i2 : ¬ ((k + 1 : Nat) : Int) < (l.length : Int) := by omega
      obtain rfl : k = K := by omega
      go_wp2
      go_returns
      exact ⟨rfl, hBw⟩
end Go.Proofs.YtgaeibibeekclaaDoor

/- Polygons, the model's side: what has a vector. -/
namespace Go.Proofs.YtgaeibibeekclaaDoor
open Go.RowKit

set_option maxHeartbeats 4000000 in
theorem specPolygonHas_any (v : Value) (l : List V2) (x y : Int) (w : World) (h : ReadsVecs w v l) :
    Calls Tryd.prog 26 #[v, .agg #[.int .i64 (x), .int .i64 (y)]] w fun e w' => e = .returned (.bool (polyB l && (vecB x y && hasPB l (x, y)))) ∧ Below w.heap.size w w' := by
  have HC := Lib.hid (fun w' (hb : Below w.heap.size w w') => specPolygonIn_any v l w' (h.below hb))
  have HL := Lib.hid (fun w' (hb : Below w.heap.size w w') hp hv => l6gLeast_any v l x y w' (h.below hb) hp hv)
  have HV := Lib.hid (fun w' => specVecIn_any x y w')
  have HZ : Hid (polyB l = true → decide (0 ≤ leastZ l (x, y) (l.length - 1)) = hasPB l (x, y)) := fun hp => least_ins (by have := poly_len hp; omega)
  obtain ⟨a, c, rfl, _⟩ := h
  generalize leastZ l (x, y) (l.length - 1) = D at *
  generalize hasPB l (x, y) = K at *
  cases hk : polyB l
  · rw [hk] at HC
    clear hk HL HV HZ
    go_enter Tryd.func26, Tryd.ntmps26
    go_wp2_with fail
    refine Calls.mono (HC.out _ (by go_grown)) ?_
    rintro e w1 ⟨rfl, hb1⟩
    have hb : Below w.heap.size w w1 := belowTo (by go_grown) hb1
    clear hb1
    go_wp2
    go_returns
    exact ⟨rfl, hb⟩
  · have HK := Lib.hid hk
    rw [hk] at HC
    cases hv : vecB x y
    · rw [hv] at HV
      clear hk HL HZ hv HK
      go_enter Tryd.func26, Tryd.ntmps26
      go_wp2_with fail
      refine Calls.mono (HC.out _ (by go_grown)) ?_
      rintro e w1 ⟨rfl, hb1⟩
      have hb : Below w.heap.size w w1 := belowTo (by go_grown) hb1
      have c0 : w1.cell? ⟨w.heap.size, 0, none⟩ = some (.int .i64 x) := (hb1.cell (p := ⟨w.heap.size, 0, none⟩) (by simp)).trans (by first | (go_cell; done) | (go_simp; done) | (simp; done))
      have c1 : w1.cell? ⟨w.heap.size, 1, none⟩ = some (.int .i64 y) := (hb1.cell (p := ⟨w.heap.size, 1, none⟩) (by simp)).trans (by first | (go_cell; done) | (go_simp; done) | (simp; done))
      clear hb1
      go_wp2_with fail
      refine Calls.mono (HV.out _) ?_
      rintro e w2 ⟨rfl, hb2⟩
      replace hb := belowTo hb hb2
      clear hb2
      go_wp2
      go_returns
      exact ⟨rfl, hb⟩
    · rw [hv] at HV
      have HK2 := Lib.hid hv
      have HR : Hid (K = decide (0 ≤ D)) := (HZ.out hk).symm
      clear hk hv HZ
      go_enter Tryd.func26, Tryd.ntmps26
      go_wp2_with fail
      refine Calls.mono (HC.out _ (by go_grown)) ?_
      rintro e w1 ⟨rfl, hb1⟩
      have hb : Below w.heap.size w w1 := belowTo (by go_grown) hb1
      have c0 : w1.cell? ⟨w.heap.size, 0, none⟩ = some (.int .i64 x) := (hb1.cell (p := ⟨w.heap.size, 0, none⟩) (by simp)).trans (by first | (go_cell; done) | (go_simp; done) | (simp; done))
      have c1 : w1.cell? ⟨w.heap.size, 1, none⟩ = some (.int .i64 y) := (hb1.cell (p := ⟨w.heap.size, 1, none⟩) (by simp)).trans (by first | (go_cell; done) | (go_simp; done) | (simp; done))
      clear hb1
      go_wp2_with fail
      refine Calls.mono (HV.out _) ?_
      rintro e w2 ⟨rfl, hb2⟩
      replace c1 := (hb2.cell (p := ⟨w.heap.size, 1, none⟩) (cell_lt c0)).trans c1
      replace c0 := (hb2.cell (p := ⟨w.heap.size, 0, none⟩) (cell_lt c0)).trans c0
      replace hb := belowTo hb hb2
      clear hb2
      go_wp2_with fail
      refine Calls.mono (HL.out _ hb HK.out HK2.out) ?_
      rintro e w3 ⟨rfl, hb3⟩
      replace hb := belowTo hb hb3
      clear hb3 c0 c1
      go_wp2
      go_returns
      exact ⟨by rw [HR.out]; rfl, hb⟩
end Go.Proofs.YtgaeibibeekclaaDoor

/- Polygons, the model's side: vectors are counted. -/
namespace Go.Proofs.YtgaeibibeekclaaDoor
open Go.RowKit

def mnI (f : Nat → Int) : Nat → Int
  | 0 => 100
  | k + 1 => min (mnI f k) (f k)
def mxI (f : Nat → Int) : Nat → Int
  | 0 => -100
  | k + 1 => max (mxI f k) (f k)
theorem mn_bnd {f : Nat → Int} (h : ∀ i, -100 ≤ f i ∧ f i ≤ 100) : ∀ k, -100 ≤ mnI f k ∧ mnI f k ≤ 100 := by
  intro k
  induction k with
  | zero => exact ⟨by simp [mnI], by simp [mnI]⟩
  | succ k ih => have := h k; unfold mnI; omega
theorem mx_bnd {f : Nat → Int} (h : ∀ i, -100 ≤ f i ∧ f i ≤ 100) : ∀ k, -100 ≤ mxI f k ∧ mxI f k ≤ 100 := by
  intro k
  induction k with
  | zero => exact ⟨by simp [mxI], by simp [mxI]⟩
  | succ k ih => have := h k; unfold mxI; omega
def xsZ (l : List V2) (i : Nat) : Int := (cyc l i).1
def ysZ (l : List V2) (i : Nat) : Int := (cyc l i).2
/-- how many vectors of the box there are whose least determinant is at least s -/
def cntZ (l : List V2) (s : Int) : Int :=
  sumI (fun a => colN (cyc l) l.length s (mnI (xsZ l) l.length + a) (mnI (ysZ l) l.length) (mxI (ysZ l) l.length - mnI (ysZ l) l.length + 1).toNat) (mxI (xsZ l) l.length - mnI (xsZ l) l.length + 1).toNat
theorem col_bnd (p : Nat → P2) (n : Nat) (s x b : Int) (H : Nat) : 0 ≤ colN p n s x b H ∧ colN p n s x b H ≤ H := by
  unfold colN
  induction H with
  | zero => exact ⟨Int.le_refl _, Int.le_refl _⟩
  | succ H ih => rw [sumI_succ]; split <;> omega
theorem cnt_bnd (p : Nat → P2) (n : Nat) (s x b : Int) (H : Nat) (W : Nat) : 0 ≤ sumI (fun a => colN p n s (x + a) b H) W ∧ sumI (fun a => colN p n s (x + a) b H) W ≤ H * W := by
  induction W with
  | zero => exact ⟨Int.le_refl _, by simp [sumI]⟩
  | succ W ih =>
    have := col_bnd p n s (x + W) b H
    rw [sumI_succ]
    have e : (H : Int) * ((W + 1 : Nat) : Int) = H * W + H := by rw [Int.natCast_add, Int.mul_add]; simp
    omega
end Go.Proofs.YtgaeibibeekclaaDoor

/- Polygons: inner vectors and all vectors: Pick's formula at a list of corners; both sides. -/
namespace Go.Proofs.YtgaeibibeekclaaDoor
open Go.RowKit

theorem sumI_Z (f : Nat → Int) (n : Nat) : sumI f n = sumZ f n := by
  induction n with
  | zero => rfl
  | succ n ih => rw [sumI_succ, ih]; rfl
theorem mn_le (f : Nat → Int) : ∀ k i, i < k → mnI f k ≤ f i := by
  intro k
  induction k with
  | zero => omega
  | succ k ih =>
    intro i hi
    unfold mnI
    by_cases e : i = k
    · rw [e]; omega
    · have := ih i (by omega); omega
theorem mx_le (f : Nat → Int) : ∀ k i, i < k → f i ≤ mxI f k := by
  intro k
  induction k with
  | zero => omega
  | succ k ih =>
    intro i hi
    unfold mxI
    by_cases e : i = k
    · rw [e]; omega
    · have := ih i (by omega); omega
theorem mn_at {f : Nat → Int} (h : ∀ i, f i ≤ 100) : ∀ k, 0 < k → ∃ i, i < k ∧ f i = mnI f k := by
  intro k
  induction k with
  | zero => omega
  | succ k ih =>
    intro _
    unfold mnI
    by_cases h0 : k = 0
    · subst h0
      have := h 0
      exact ⟨0, by omega, by unfold mnI; omega⟩
    · obtain ⟨i, hi, e⟩ := ih (by omega)
      rcases Int.lt_or_le (f k) (mnI f k) with c | c
      · exact ⟨k, by omega, by omega⟩
      · exact ⟨i, by omega, by omega⟩
theorem mx_at {f : Nat → Int} (h : ∀ i, -100 ≤ f i) : ∀ k, 0 < k → ∃ i, i < k ∧ f i = mxI f k := by
  intro k
  induction k with
  | zero => omega
  | succ k ih =>
    intro _
    unfold mxI
    by_cases h0 : k = 0
    · subst h0
      have := h 0
      exact ⟨0, by omega, by unfold mxI; omega⟩
    · obtain ⟨i, hi, e⟩ := ih (by omega)
      rcases Int.lt_or_le (mxI f k) (f k) with c | c
      · exact ⟨k, by omega, by omega⟩
      · exact ⟨i, by omega, by omega⟩
theorem cnt_pick {l : List V2} (h : polyB l = true) : 2 * cntZ l 0 = areaZ l + edgeZ l l.length + 2 ∧ 2 * cntZ l 1 = areaZ l - edgeZ l l.length + 2 := by
  have h3 := poly_len h
  have hc := poly_conv h
  have hx : ∀ i, -100 ≤ xsZ l i ∧ xsZ l i ≤ 100 := fun i => (poly_small h i).1
  have hy : ∀ i, -100 ≤ ysZ l i ∧ ysZ l i ≤ 100 := fun i => (poly_small h i).2
  have xm : ∀ i, xsZ l (i % l.length) = xsZ l i := fun i => by unfold xsZ; rw [cyc_mod]
  have ym : ∀ i, ysZ l (i % l.length) = ysZ l i := fun i => by unfold ysZ; rw [cyc_mod]
  have x0 : ∀ i, mnI (xsZ l) l.length ≤ xsZ l i := fun i => by rw [← xm]; exact mn_le _ _ _ (Nat.mod_lt _ (by omega))
  have x1 : ∀ i, xsZ l i ≤ mxI (xsZ l) l.length := fun i => by rw [← xm]; exact mx_le _ _ _ (Nat.mod_lt _ (by omega))
  have y0 : ∀ i, mnI (ysZ l) l.length ≤ ysZ l i := fun i => by rw [← ym]; exact mn_le _ _ _ (Nat.mod_lt _ (by omega))
  have y1 : ∀ i, ysZ l i ≤ mxI (ysZ l) l.length := fun i => by rw [← ym]; exact mx_le _ _ _ (Nat.mod_lt _ (by omega))
  obtain ⟨i0, _, e0⟩ := mn_at (fun i => (hx i).2) l.length (by omega)
  obtain ⟨i1, _, e1⟩ := mx_at (fun i => (hx i).1) l.length (by omega)
  have w0 := x0 i1
  have v0 := y0 0
  have v1 := y1 0
  have hb : InBox (cyc l) (mnI (ysZ l) l.length) (mxI (ysZ l) l.length - mnI (ysZ l) l.length + 1).toNat := fun k => by
    have a := y0 k
    have b := y1 k
    unfold ysZ at *
    omega
  have hh := pick_all hc hb (x0 := mnI (xsZ l) l.length) (W := (mxI (xsZ l) l.length - mnI (xsZ l) l.length).toNat) (fun k => by
    have a := x0 k
    have b := x1 k
    unfold xsZ at *
    omega) ⟨i0, e0⟩ ⟨i1, by
    unfold xsZ at *
    omega⟩
  have eA : areaI (cyc l) l.length = areaZ l := sumI_Z _ _
  have eE : edgeI (cyc l) l.length = edgeZ l l.length := sumI_Z _ _
  have eW : (mxI (xsZ l) l.length - mnI (xsZ l) l.length + 1).toNat = (mxI (xsZ l) l.length - mnI (xsZ l) l.length).toNat + 1 := by omega
  rw [eA, eE] at hh
  unfold cntZ
  rw [eW]
  exact hh
theorem inner_cnt {l : List V2} (h : polyB l = true) : cntZ l 1 = innerZ l ∧ cntZ l 0 = innerZ l + edgeZ l l.length := by
  obtain ⟨a, b⟩ := cnt_pick h
  have e : innerZ l = cntZ l 1 := by
    unfold innerZ
    rw [show areaZ l - edgeZ l l.length + 2 = cntZ l 1 * 2 by omega]
    exact Int.mul_tdiv_cancel _ (by omega)
  omega
end Go.Proofs.YtgaeibibeekclaaDoor
