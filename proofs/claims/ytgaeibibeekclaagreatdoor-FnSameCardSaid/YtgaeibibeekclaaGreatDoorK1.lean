import Derived.Test.YtgaeibibeekclaaGreatDoorBj
import Derived.Test.YtgaeibibeekclaaGreatDoorBs
import Derived.Test.YtgaeibibeekclaaGreatDoorWf
import Derived.StillTailTactics
import Derived.Test.YtgaeibibeekclaaGreatDoorBh
/- Polygons: edges, normals, the exported functions: the program. -/
namespace Go.Proofs.YtgaeibibeekclaaGreatDoor
open Go.RowKit

theorem polyEnd_cases {b : Bool} {e : Ending} (h : PolyEnd b e) : (b = true ∧ e = .returned .nilIface) ∨ (b = false ∧ ∃ s, e = .returned (.iface 77 (.agg #[.string s]))) := polyEnd_of h
theorem way_nz {l : List V2} (h : polyB l = true) (i : Nat) : ¬ ((wayZ l i).1 = 0 ∧ (wayZ l i).2 = 0) := by
  rintro ⟨h1, h2⟩
  have t : 0 < detV (wayZ l i) (wayZ l (i + 1)) := (poly_conv h).turn i
  unfold detV detZ at t
  rw [h1, h2] at t
  omega
theorem way_vec {l : List V2} (h : polyB l = true) (i : Nat) : vecB (wayZ l i).1 (wayZ l i).2 = true := vec_of (by have := way_small (allK_all (poly_in h).2.1 (by have := poly_len h; omega)) i; omega)
/-- the vectors on the edges -/
def edgeZ (l : List V2) (k : Nat) : Int := sumZ (fun i => gcdZ (wayZ l i).1 (wayZ l i).2) k
theorem edge_bnd {l : List V2} (h : polyB l = true) : ∀ k, 0 ≤ edgeZ l k ∧ edgeZ l k ≤ 1000 * k := by
  intro k
  induction k with
  | zero => exact ⟨Int.le_refl _, Int.le_refl _⟩
  | succ k ih =>
    have := szs (way_vec h k)
    have a := gcdZ_le (n := 1000) this.1 this.2
    have b := gcdZ_nonneg (wayZ l k).1 (wayZ l k).2
    unfold edgeZ at *
    rw [show sumZ (fun i => gcdZ (wayZ l i).1 (wayZ l i).2) (k + 1) = sumZ (fun i => gcdZ (wayZ l i).1 (wayZ l i).2) k + gcdZ (wayZ l k).1 (wayZ l k).2 from rfl]
    omega
set_option maxRecDepth 100000 in
set_option maxHeartbeats 16000000 in
theorem edge_any (v : Value) (l : List V2) (w : World) (h : ReadsVecs w v l) (hp : polyB l = true) :
    Calls Tryz.prog 36 #[v] w fun e w' => e = .returned (.int .i64 (edgeZ l l.length)) ∧ Below w.heap.size w w' := by
  have h30 := poly_len hp
  have h0 : 0 < l.length := by omega
  have HWy := Lib.hid (fun w' (hb : Below w.heap.size w w') => ways_any v l w' (h.below hb) h0 (by omega) (fun i => by have := poly_small hp i; unfold big; omega))
  have HWc := Lib.hid (fun i => cyc_ways h0 i)
  have HWs := Lib.hid (fun i => szs (way_vec hp i))
  have HWl := Lib.hid (waysL_len l)
  have HEb := Lib.hid (fun k => edge_bnd hp k)
  have HSu : Hid (∀ k, edgeZ l (k + 1) = edgeZ l k + gcdZ (wayZ l k).1 (wayZ l k).2) := fun _ => rfl
  have HS0 : Hid (edgeZ l 0 = 0) := rfl
  have HGb := Lib.hid (fun k => (gcdZ_nonneg (wayZ l k).1 (wayZ l k).2))
  obtain ⟨a, c, rfl, _⟩ := h
  generalize edgeZ l = Q at *
  clear hp
  go_enter Tryz.func36, Tryz.ntmps36
  go_wp2_with fail
  refine Calls.mono (HWy.out _ (by go_grown)) ?_
  rintro e W1 ⟨v1, rfl, hI, hb1⟩
  have HB1 := Lib.hid (show Below w.heap.size w W1 from belowTo (by go_grown) hb1)
  obtain ⟨bw, ow, wc, rfl, _, _, hbw, hws⟩ := (hI.reads (by rw [waysL_len]; omega)).open (by rw [waysL_len]; exact h0)
  have HWS := Lib.hid hws
  clear hb1 hI hws HWy
  have hsW := HB1.out.size
  have hwl := HWl.out
  generalize hn : (waysL l).length = n at *
  subst hwl
  clear hn
  go_wp2
  go_loopw [3, 9] (fun s3 s wr => ∃ k : Nat, k ≤ l.length ∧ s3 = .int .i64 (Q k) ∧ s = .int .i64 k ∧ Below W1.heap.size W1 wr) (fun _ s _ => l.length - (intOf s).toNat)
  case atStart => exact ⟨0, Nat.zero_le _, by rw [HS0.out], rfl, Below.refl _ _⟩
  case round =>
    obtain ⟨k, hk, rfl, rfl, hB⟩ := hrel
    have i1 : (0 : Int) ≤ (k : Int) := by omega
    by_cases hlt : k < l.length
    · have i2 : (k : Int) < (l.length : Int) := by omega
      obtain ⟨d0, d1⟩ := HWS.out wr hB k hlt
      rw [HWc.out k] at d0 d1
      have b1 := HWs.out k
      have e1 := HEb.out k
      have e2 := HEb.out (k + 1)
      have HSk := Lib.hid (HSu.out k)
      have e3 := HSu.out k
      generalize wayZ l k = U at *
      obtain ⟨u1, u2⟩ := U
      dsimp only at d0 d1 b1 HSk e3
      have HG := Lib.hid (fun w' => commonDivisor_any u1 u2 w' b1.1 b1.2)
      generalize gcdZ u1 u2 = g at *
      have q1 : IntKind.i64.wrap (Q k + g) = Q k + g := by rw [IntKind.wrap_i64]; omega
      have hs := hB.size
      clear HWs HEb HSu HS0 HGb HWc HWS e1 e2 e3 b1
      go_wp2_with fail
      refine Calls.mono (HG.out _) ?_
      rintro e w2 ⟨rfl, hb2⟩
      have hBk := hB.trans ((belowTo (a := wr) (by go_grown) hb2).mono hs)
      clear hb2 HG
      go_wp2
      go_roundw
      case rel => exact ⟨k + 1, by omega, by rw [HSk.out], by go_num, hBk⟩
      case measure => simp [intOf]; omega
    · obtain rfl : k = l.length := by omega
      have i2 : ¬ ((l.length : Nat) : Int) < (l.length : Int) := by omega
      go_wp2
      go_returns
      exact ⟨rfl, HB1.out.trans (hB.mono hsW)⟩
theorem poly_allV {l : List V2} (h : polyB l = true) : allV l = true := allV_good (fun k _ => poly_vec h k)
set_option maxHeartbeats 4000000 in
theorem polyArea_any (v : Value) (l : List V2) (w : World) (h : ReadsVecs w v l) (hp : polyB l = true) :
    Calls Tryz.prog 35 #[v] w fun e w' => e = .returned (.int .i64 (areaZ l)) ∧ Below w.heap.size w w' := by
  have h30 := poly_len hp
  have HA := Lib.hid (area_any v l w h (by omega) (by omega) (poly_allV hp))
  obtain ⟨a, c, rfl, _⟩ := h
  generalize areaZ l = z at *
  clear hp
  go_enter Tryz.func35, Tryz.ntmps35
  go_wp2_with fail
  refine Calls.mono HA.out ?_
  rintro e w1 ⟨rfl, hb1⟩
  go_wp2
  go_returns
  exact ⟨rfl, hb1⟩
/-- the inner vectors, by Pick's formula -/
def innerZ (l : List V2) : Int := (areaZ l - edgeZ l l.length + 2).tdiv 2
theorem poly_nums {l : List V2} (h : polyB l = true) : (-2000000000 ≤ areaZ l ∧ areaZ l ≤ 2000000000) ∧ 0 ≤ edgeZ l l.length ∧ edgeZ l l.length ≤ 30000 := by
  have h30 := poly_len h
  have a := area_bnd (poly_allV h) (by omega) (k := l.length) (by omega)
  have b := edge_bnd h l.length
  exact ⟨a, b.1, by omega⟩
set_option maxHeartbeats 4000000 in
theorem inner_any (v : Value) (l : List V2) (w : World) (h : ReadsVecs w v l) (hp : polyB l = true) :
    Calls Tryz.prog 42 #[v] w fun e w' => e = .returned (.int .i64 (innerZ l)) ∧ Below w.heap.size w w' := by
  have HA := Lib.hid (polyArea_any v l w h hp)
  have HE := Lib.hid (fun w' (hb : Below w.heap.size w w') => edge_any v l w' (h.below hb) hp)
  obtain ⟨⟨n1, n2⟩, n3, n4⟩ := poly_nums hp
  have HZ : Hid (innerZ l = (areaZ l - edgeZ l l.length + 2).tdiv 2) := rfl
  obtain ⟨a, c, rfl, _⟩ := h
  generalize areaZ l = z at *
  generalize edgeZ l l.length = g at *
  clear hp
  go_enter Tryz.func42, Tryz.ntmps42
  go_wp2_with fail
  refine Calls.mono HA.out ?_
  rintro e w1 ⟨rfl, hb1⟩
  go_wp2_with fail
  refine Calls.mono (HE.out _ hb1) ?_
  rintro e w2 ⟨rfl, hb2⟩
  have hb := belowTo hb1 hb2
  clear hb1 hb2
  have q1 : IntKind.i64.wrap (z - g) = z - g := by rw [IntKind.wrap_i64]; omega
  have q2 : IntKind.i64.wrap (z - g + 2) = z - g + 2 := by rw [IntKind.wrap_i64]; omega
  have q3 : IntKind.i64.wrap ((z - g + 2).tdiv 2) = (z - g + 2).tdiv 2 := by have := tdiv_bd (x := z - g + 2) (m := 2) (n := 3000000000) (by omega); rw [IntKind.wrap_i64]; omega
  go_wp2
  go_returns
  exact ⟨by rw [HZ.out]; rfl, hb⟩
end Go.Proofs.YtgaeibibeekclaaGreatDoor

/- Polygons: the exported functions that tell numbers: the program. -/
namespace Go.Proofs.YtgaeibibeekclaaGreatDoor
open Go.RowKit

set_option maxHeartbeats 4000000 in
theorem polygonArea_any (v : Value) (l : List V2) (w : World) (h : ReadsVecs w v l) (hg : EtOk w) :
    Calls Tryz.prog 11 #[v] w fun e w' => e = .returned (.tuple #[.int .i64 (gate (polyB l) (areaZ l)), .bool (polyB l)]) ∧ Below w.heap.size w w' := by
  have HC := Lib.hid (polyCheck_any v l w h)
  have H0 := Lib.hid (fun w' (hb : Below w.heap.size w w') (hp : polyB l = true) => polyArea_any v l w' (h.below hb) hp)
  obtain ⟨a, c, rfl, _⟩ := h
  generalize areaZ l = z at *
  cases hk : polyB l
  · rw [hk] at HC
    clear hk H0
    go_enter Tryz.func11, Tryz.ntmps11
    go_wp2_with fail
    refine Calls.mono HC.out ?_
    rintro e w1 ⟨⟨s, rfl⟩, hb1⟩
    go_wp2_with fail
    refine Calls.mono (none_hit s _ (hg.below hb1)) ?_
    rintro e w2 ⟨rfl, hb2⟩
    have hb := belowTo hb1 hb2
    clear hb1 hb2
    go_wp2
    go_returns
    exact ⟨rfl, hb⟩
  · rw [hk] at HC
    have HK := Lib.hid hk
    clear hk
    have HC2 := Lib.hid (HC.out.mono (fun e w' h => (⟨h.1, h.2⟩ : e = .returned .nilIface ∧ Below w.heap.size w w')))
    clear HC
    go_enter Tryz.func11, Tryz.ntmps11
    go_wp2_with fail
    refine Calls.mono HC2.out ?_
    rintro e w1 ⟨rfl, hb⟩
    go_wp2_with fail
    refine Calls.mono (none_nil _) ?_
    rintro e w2 ⟨rfl, hb2⟩
    replace hb := belowTo hb hb2
    clear hb2
    go_wp2_with fail
    refine Calls.mono (H0.out _ hb HK.out) ?_
    rintro e w3 ⟨rfl, hb3⟩
    replace hb := belowTo hb hb3
    clear hb3
    go_wp2
    go_returns
    exact ⟨rfl, hb⟩
set_option maxHeartbeats 4000000 in
theorem polygonEdge_any (v : Value) (l : List V2) (w : World) (h : ReadsVecs w v l) (hg : EtOk w) :
    Calls Tryz.prog 12 #[v] w fun e w' => e = .returned (.tuple #[.int .i64 (gate (polyB l) (edgeZ l l.length)), .bool (polyB l)]) ∧ Below w.heap.size w w' := by
  have HC := Lib.hid (polyCheck_any v l w h)
  have H0 := Lib.hid (fun w' (hb : Below w.heap.size w w') (hp : polyB l = true) => edge_any v l w' (h.below hb) hp)
  obtain ⟨a, c, rfl, _⟩ := h
  generalize edgeZ l l.length = z at *
  cases hk : polyB l
  · rw [hk] at HC
    clear hk H0
    go_enter Tryz.func12, Tryz.ntmps12
    go_wp2_with fail
    refine Calls.mono HC.out ?_
    rintro e w1 ⟨⟨s, rfl⟩, hb1⟩
    go_wp2_with fail
    refine Calls.mono (none_hit s _ (hg.below hb1)) ?_
    rintro e w2 ⟨rfl, hb2⟩
    have hb := belowTo hb1 hb2
    clear hb1 hb2
    go_wp2
    go_returns
    exact ⟨rfl, hb⟩
  · rw [hk] at HC
    have HK := Lib.hid hk
    clear hk
    have HC2 := Lib.hid (HC.out.mono (fun e w' h => (⟨h.1, h.2⟩ : e = .returned .nilIface ∧ Below w.heap.size w w')))
    clear HC
    go_enter Tryz.func12, Tryz.ntmps12
    go_wp2_with fail
    refine Calls.mono HC2.out ?_
    rintro e w1 ⟨rfl, hb⟩
    go_wp2_with fail
    refine Calls.mono (none_nil _) ?_
    rintro e w2 ⟨rfl, hb2⟩
    replace hb := belowTo hb hb2
    clear hb2
    go_wp2_with fail
    refine Calls.mono (H0.out _ hb HK.out) ?_
    rintro e w3 ⟨rfl, hb3⟩
    replace hb := belowTo hb hb3
    clear hb3
    go_wp2
    go_returns
    exact ⟨rfl, hb⟩
set_option maxHeartbeats 4000000 in
theorem polygonInner_any (v : Value) (l : List V2) (w : World) (h : ReadsVecs w v l) (hg : EtOk w) :
    Calls Tryz.prog 17 #[v] w fun e w' => e = .returned (.tuple #[.int .i64 (gate (polyB l) (innerZ l)), .bool (polyB l)]) ∧ Below w.heap.size w w' := by
  have HC := Lib.hid (polyCheck_any v l w h)
  have H0 := Lib.hid (fun w' (hb : Below w.heap.size w w') (hp : polyB l = true) => inner_any v l w' (h.below hb) hp)
  obtain ⟨a, c, rfl, _⟩ := h
  generalize innerZ l = z at *
  cases hk : polyB l
  · rw [hk] at HC
    clear hk H0
    go_enter Tryz.func17, Tryz.ntmps17
    go_wp2_with fail
    refine Calls.mono HC.out ?_
    rintro e w1 ⟨⟨s, rfl⟩, hb1⟩
    go_wp2_with fail
    refine Calls.mono (none_hit s _ (hg.below hb1)) ?_
    rintro e w2 ⟨rfl, hb2⟩
    have hb := belowTo hb1 hb2
    clear hb1 hb2
    go_wp2
    go_returns
    exact ⟨rfl, hb⟩
  · rw [hk] at HC
    have HK := Lib.hid hk
    clear hk
    have HC2 := Lib.hid (HC.out.mono (fun e w' h => (⟨h.1, h.2⟩ : e = .returned .nilIface ∧ Below w.heap.size w w')))
    clear HC
    go_enter Tryz.func17, Tryz.ntmps17
    go_wp2_with fail
    refine Calls.mono HC2.out ?_
    rintro e w1 ⟨rfl, hb⟩
    go_wp2_with fail
    refine Calls.mono (none_nil _) ?_
    rintro e w2 ⟨rfl, hb2⟩
    replace hb := belowTo hb hb2
    clear hb2
    go_wp2_with fail
    refine Calls.mono (H0.out _ hb HK.out) ?_
    rintro e w3 ⟨rfl, hb3⟩
    replace hb := belowTo hb hb3
    clear hb3
    go_wp2
    go_returns
    exact ⟨rfl, hb⟩
end Go.Proofs.YtgaeibibeekclaaGreatDoor

/- Polygons, the model's side: areas, edges, vectors. -/
namespace Go.Proofs.YtgaeibibeekclaaGreatDoor
open Go.RowKit

set_option maxHeartbeats 1000000 in
theorem l1DetBig_any (x1 y1 x2 y2 : Int) (w : World) (h1 : big 800000 x1 y1) (h2 : big 800000 x2 y2) :
    Calls Tryz.prog 55 #[.agg #[.int .i64 (x1), .int .i64 (y1)], .agg #[.int .i64 (x2), .int .i64 (y2)]] w fun e w' => e = .returned (.int .i64 (detZ x1 y1 x2 y2)) ∧ Below w.heap.size w w' := by
  obtain ⟨_, _⟩ := mul_big h1.1 h2.2
  obtain ⟨_, _⟩ := mul_big h1.2 h2.1
  clear h1 h2
  go_enter Tryz.func55, Tryz.ntmps55
  go_wp2
  go_returns
  exact ⟨rfl, by go_grown⟩
/-- the least determinant -/
def leastZ (l : List V2) (z : V2) : Nat → Int
  | 0 => sideZ (cyc l) 0 z
  | k + 1 => min (leastZ l z k) (sideZ (cyc l) (k + 1) z)
theorem least_iff {l : List V2} {z : V2} {s : Int} : ∀ k, s ≤ leastZ l z k ↔ ∀ i, i ≤ k → s ≤ sideZ (cyc l) i z := by
  intro k
  induction k with
  | zero =>
    constructor
    · intro h i hi
      obtain rfl : i = 0 := by omega
      exact h
    · intro h; exact h 0 (Nat.le_refl _)
  | succ k ih =>
    have e : leastZ l z (k + 1) = min (leastZ l z k) (sideZ (cyc l) (k + 1) z) := rfl
    constructor
    · intro h i hi
      by_cases c : i = k + 1
      · rw [c]; omega
      · exact ih.1 (by omega) i (by omega)
    · intro h
      have a := ih.2 (fun i hi => h i (by omega))
      have b := h (k + 1) (Nat.le_refl _)
      omega
theorem least_ins {l : List V2} {z : V2} {s : Int} (h0 : 0 < l.length) : decide (s ≤ leastZ l z (l.length - 1)) = insB (cyc l) l.length s z := by
  rw [Bool.eq_iff_iff, decide_eq_true_eq, least_iff, ins_iff]
  exact ⟨fun h k hk => h k (by omega), fun h k hk => h k (by omega)⟩
set_option maxRecDepth 100000 in
set_option maxHeartbeats 32000000 in
theorem l6gLeast_any (v : Value) (l : List V2) (x y : Int) (w : World) (h : ReadsVecs w v l) (hp : polyB l = true) (hv : vecB x y = true) :
    Calls Tryz.prog 69 #[v, .agg #[.int .i64 (x), .int .i64 (y)]] w fun e w' => e = .returned (.int .i64 (leastZ l (x, y) (l.length - 1))) ∧ Below w.heap.size w w' := by
  have h30 := poly_len hp
  have h0 : 0 < l.length := by omega
  obtain ⟨bb, off, vc, rfl, _, _, hbv, hvs⟩ := h.open h0
  have HVS := Lib.hid hvs
  have HMb := Lib.hid (fun i => poly_small hp i)
  have hxy := szs hv
  obtain ⟨K, hK⟩ : ∃ K, K = l.length - 1 := ⟨_, rfl⟩
  rw [← hK]
  have HL0 : Hid (leastZ l (x, y) 0 = detZ ((cyc l 1).1 - (cyc l 0).1) ((cyc l 1).2 - (cyc l 0).2) (x - (cyc l 0).1) (y - (cyc l 0).2)) := rfl
  have HLs : Hid (∀ k, leastZ l (x, y) (k + 1) = min (leastZ l (x, y) k) (detZ ((cyc l (k + 1 + 1)).1 - (cyc l (k + 1)).1) ((cyc l (k + 1 + 1)).2 - (cyc l (k + 1)).2) (x - (cyc l (k + 1)).1) (y - (cyc l (k + 1)).2))) := fun _ => rfl
  clear h hp hv hvs
  generalize leastZ l (x, y) = Q at *
  obtain ⟨W0, hW0⟩ : ∃ W0, W0 = w.alloc (.cells #[.int .i64 x, .int .i64 y] 25) := ⟨_, rfl⟩
  have a0 : W0.cell? ⟨w.heap.size, 0, none⟩ = some (.int .i64 x) := by rw [hW0]; simp
  have a1 : W0.cell? ⟨w.heap.size, 1, none⟩ = some (.int .i64 y) := by rw [hW0]; simp
  have hB0 : Below w.heap.size w W0 := by rw [hW0]; go_grown
  have HB0 := Lib.hid hB0
  have HA0 := Lib.hid a0
  have HA1 := Lib.hid a1
  obtain ⟨d0, d1⟩ := HVS.out W0 hB0 0 h0
  obtain ⟨d2, d3⟩ := HVS.out W0 hB0 1 (by omega)
  have b0 := HMb.out 0
  have b1 := HMb.out 1
  have HL0' := Lib.hid HL0.out
  generalize cyc l 0 = V at d0 d1 b0 HL0'
  generalize cyc l 1 = U at d2 d3 b1 HL0'
  obtain ⟨x1, y1⟩ := V
  obtain ⟨x2, y2⟩ := U
  dsimp only at d0 d1 d2 d3 HL0' b0 b1
  have B0 : big 400000 x1 y1 := by unfold big; omega
  have B1 : big 400000 x2 y2 := by unfold big; omega
  have B2 : big 400000 x y := by unfold big; omega
  have B3 : big 800000 (x2 - x1) (y2 - y1) := by unfold big; omega
  have B4 : big 800000 (x - x1) (y - y1) := by unfold big; omega
  have HD := Lib.hid (fun w' => l1DetBig_any (x2 - x1) (y2 - y1) (x - x1) (y - y1) w' B3 B4)
  have n1 : (1 : Int) < (l.length : Int) := by omega
  have n0 : (0 : Int) < (l.length : Int) := by omega
  have n1' : 1 < l.length := by omega
  have tt0 := cell_lt d0
  have tt1 := cell_lt a0
  clear b0 b1 B3 B4 HL0
  simp only [Nat.zero_mul, Nat.add_zero, Nat.one_mul] at d0 d1 d2 d3
  go_enter Tryz.func69, Tryz.ntmps69
  go_upto_region 1 with fail
  rw [← hW0]
  clear hW0
  go_region_held3 (fun w' => w'.cell? ⟨bb, off, none⟩ = some (.int .i64 (x1)) ∧ w'.cell? ⟨bb, off + 1, none⟩ = some (.int .i64 (y1)) ∧ w'.cell? ⟨bb, off + 2, none⟩ = some (.int .i64 (x2)) ∧ w'.cell? ⟨bb, off + 2 + 1, none⟩ = some (.int .i64 (y2)) ∧ w'.cell? ⟨w.heap.size, 0, none⟩ = some (.int .i64 (x)) ∧ w'.cell? ⟨w.heap.size, 1, none⟩ = some (.int .i64 (y)) ∧ Below (w.heap.size) W0 w') ((go_split_ands; refine ⟨by (first | (with_reducible assumption) | (go_keep; done) | (go_cell; done) | (go_simp; done) | (simp [*]; done)), by (first | (with_reducible assumption) | (go_keep; done) | (go_cell; done) | (go_simp; done) | (simp [*]; done)), by (first | (with_reducible assumption) | (go_keep; done) | (go_cell; done) | (go_simp; done) | (simp [*]; done)), by (first | (with_reducible assumption) | (go_keep; done) | (go_cell; done) | (go_simp; done) | (simp [*]; done)), by (first | (with_reducible assumption) | (go_keep; done) | (go_cell; done) | (go_simp; done) | (simp [*]; done)), by (first | (with_reducible assumption) | (go_keep; done) | (go_cell; done) | (go_simp; done) | (simp [*]; done)), by first | (with_reducible assumption) | (go_grown; done)⟩)) (first | (go_at_call 54; go_call (l6gWay_any _ _ _ _ _ (by assumption) (by assumption)) as e w1 ⟨rfl, hb0⟩; go_split_ands; have q0 : w1.cell? ⟨bb, off, none⟩ = some (.int .i64 (x1)) := (hb0.cell (p := ⟨bb, off, none⟩) (by first | (with_reducible assumption) | (go_size; done) | (simp; omega))).trans (by first | (with_reducible assumption) | (go_keep; done) | (go_cell; done) | (go_simp; done) | (simp [*]; done)); have q1 : w1.cell? ⟨bb, off + 1, none⟩ = some (.int .i64 (y1)) := (hb0.cell (p := ⟨bb, off + 1, none⟩) (by first | (with_reducible assumption) | (go_size; done) | (simp; omega))).trans (by first | (with_reducible assumption) | (go_keep; done) | (go_cell; done) | (go_simp; done) | (simp [*]; done)); have q2 : w1.cell? ⟨bb, off + 2, none⟩ = some (.int .i64 (x2)) := (hb0.cell (p := ⟨bb, off + 2, none⟩) (by first | (with_reducible assumption) | (go_size; done) | (simp; omega))).trans (by first | (with_reducible assumption) | (go_keep; done) | (go_cell; done) | (go_simp; done) | (simp [*]; done)); have q3 : w1.cell? ⟨bb, off + 2 + 1, none⟩ = some (.int .i64 (y2)) := (hb0.cell (p := ⟨bb, off + 2 + 1, none⟩) (by first | (with_reducible assumption) | (go_size; done) | (simp; omega))).trans (by first | (with_reducible assumption) | (go_keep; done) | (go_cell; done) | (go_simp; done) | (simp [*]; done)); have q4 : w1.cell? ⟨w.heap.size, 0, none⟩ = some (.int .i64 (x)) := (hb0.cell (p := ⟨w.heap.size, 0, none⟩) (by first | (with_reducible assumption) | (go_size; done) | (simp; omega))).trans (by first | (with_reducible assumption) | (go_keep; done) | (go_cell; done) | (go_simp; done) | (simp [*]; done)); have q5 : w1.cell? ⟨w.heap.size, 1, none⟩ = some (.int .i64 (y)) := (hb0.cell (p := ⟨w.heap.size, 1, none⟩) (by first | (with_reducible assumption) | (go_size; done) | (simp; omega))).trans (by first | (with_reducible assumption) | (go_keep; done) | (go_cell; done) | (go_simp; done) | (simp [*]; done)); have hs0 : bb < w1.heap.size := Nat.lt_of_lt_of_le (by first | (with_reducible assumption) | (go_size; done) | (simp; omega)) hb0.size; have hs1 : w.heap.size < w1.heap.size := Nat.lt_of_lt_of_le (by first | (with_reducible assumption) | (go_size; done) | (simp; omega)) hb0.size; have hT : Below (w.heap.size) W0 w1 := Below.trans (by first | (with_reducible assumption) | (go_grown; done)) (hb0.mono (by first | (with_reducible assumption) | (go_size; done) | (simp; omega) | omega)); have hTs := hT.size; (try have hT2 : Below W0.heap.size W0 w1 := belowTo (by first | (with_reducible assumption) | (go_grown; done)) hb0); clear hb0) | (go_at_call 55; go_call (HD.out _) as e w1 ⟨rfl, hb0⟩; go_split_ands; have q0 : w1.cell? ⟨bb, off, none⟩ = some (.int .i64 (x1)) := (hb0.cell (p := ⟨bb, off, none⟩) (by first | (with_reducible assumption) | (go_size; done) | (simp; omega))).trans (by first | (with_reducible assumption) | (go_keep; done) | (go_cell; done) | (go_simp; done) | (simp [*]; done)); have q1 : w1.cell? ⟨bb, off + 1, none⟩ = some (.int .i64 (y1)) := (hb0.cell (p := ⟨bb, off + 1, none⟩) (by first | (with_reducible assumption) | (go_size; done) | (simp; omega))).trans (by first | (with_reducible assumption) | (go_keep; done) | (go_cell; done) | (go_simp; done) | (simp [*]; done)); have q2 : w1.cell? ⟨bb, off + 2, none⟩ = some (.int .i64 (x2)) := (hb0.cell (p := ⟨bb, off + 2, none⟩) (by first | (with_reducible assumption) | (go_size; done) | (simp; omega))).trans (by first | (with_reducible assumption) | (go_keep; done) | (go_cell; done) | (go_simp; done) | (simp [*]; done)); have q3 : w1.cell? ⟨bb, off + 2 + 1, none⟩ = some (.int .i64 (y2)) := (hb0.cell (p := ⟨bb, off + 2 + 1, none⟩) (by first | (with_reducible assumption) | (go_size; done) | (simp; omega))).trans (by first | (with_reducible assumption) | (go_keep; done) | (go_cell; done) | (go_simp; done) | (simp [*]; done)); have q4 : w1.cell? ⟨w.heap.size, 0, none⟩ = some (.int .i64 (x)) := (hb0.cell (p := ⟨w.heap.size, 0, none⟩) (by first | (with_reducible assumption) | (go_size; done) | (simp; omega))).trans (by first | (with_reducible assumption) | (go_keep; done) | (go_cell; done) | (go_simp; done) | (simp [*]; done)); have q5 : w1.cell? ⟨w.heap.size, 1, none⟩ = some (.int .i64 (y)) := (hb0.cell (p := ⟨w.heap.size, 1, none⟩) (by first | (with_reducible assumption) | (go_size; done) | (simp; omega))).trans (by first | (with_reducible assumption) | (go_keep; done) | (go_cell; done) | (go_simp; done) | (simp [*]; done)); have hs0 : bb < w1.heap.size := Nat.lt_of_lt_of_le (by first | (with_reducible assumption) | (go_size; done) | (simp; omega)) hb0.size; have hs1 : w.heap.size < w1.heap.size := Nat.lt_of_lt_of_le (by first | (with_reducible assumption) | (go_size; done) | (simp; omega)) hb0.size; have hT : Below (w.heap.size) W0 w1 := Below.trans (by first | (with_reducible assumption) | (go_grown; done)) (hb0.mono (by first | (with_reducible assumption) | (go_size; done) | (simp; omega) | omega)); have hTs := hT.size; (try have hT2 : Below W0.heap.size W0 w1 := belowTo (by first | (with_reducible assumption) | (go_grown; done)) hb0); clear hb0))
  rw [← HL0'.out]
  have hB1 := HB0.out.trans hT
  clear hT hTs B0 B1 d0 d1 d2 d3 HL0' HD tt0 tt1
  have ha0 : w1.cell? ⟨w.heap.size, 0, none⟩ = some (.int .i64 x) := by assumption
  have ha1 : w1.cell? ⟨w.heap.size, 1, none⟩ = some (.int .i64 y) := by assumption
  have HA0 := Lib.hid ha0
  have HA1 := Lib.hid ha1
  have hwz : w.heap.size < w1.heap.size := cell_lt ha0
  clear ha0 ha1
  generalize w1 = W1 at *
  go_wp2
  go_loopw [5, 6] (fun s5 s6 wr => ∃ k : Nat, k + 1 ≤ l.length ∧ s5 = .int .i64 (Q k) ∧ s6 = .int .i64 ((k + 1 : Nat) : Int) ∧ Below W1.heap.size W1 wr) (fun _ s6 _ => l.length - (intOf s6).toNat)
  case atStart => exact ⟨0, (by omega), rfl, rfl, Below.refl _ _⟩
  case round =>
    obtain ⟨k, hk, rfl, rfl, hB⟩ := hrel
    have hBw := hB1.trans (hB.mono hB1.size)
    have i1 : (0 : Int) ≤ ((k + 1 : Nat) : Int) := by omega
    by_cases hlt : k + 1 < l.length
    · have i2 : ((k + 1 : Nat) : Int) < (l.length : Int) := by omega
      have hq : (k + 1 + 1) % l.length < l.length := Nat.mod_lt _ h0
      have j3 : (0 : Int) ≤ (((k + 1 + 1) % l.length : Nat) : Int) := by omega
      have j4 : (((k + 1 + 1) % l.length : Nat) : Int) < (l.length : Int) := by omega
      have j5 : ¬ (l.length : Int) = 0 := by omega
      have j6 : ((l.length : Int) == 0) = false := by simpa using j5
      have j7 : ¬ l.length = 0 := by omega
      have t2 := next_is (k + 1) l.length
      have q0 : IntKind.i64.wrap (((k + 1 : Nat) : Int) + 1) = ((k + 1 : Nat) : Int) + 1 := by rw [IntKind.wrap_i64]; omega
      obtain ⟨d0, d1⟩ := HVS.out wr hBw (k + 1) hlt
      obtain ⟨d2, d3⟩ := HVS.out wr hBw _ hq
      rw [cyc_mod] at d2 d3
      have a1 := (hB.cell (p := ⟨w.heap.size, 1, none⟩) hwz).trans HA1.out
      have a0 := (hB.cell (p := ⟨w.heap.size, 0, none⟩) hwz).trans HA0.out
      have b0 := HMb.out (k + 1)
      have b1 := HMb.out (k + 1 + 1)
      have HLk := Lib.hid (HLs.out k)
      generalize cyc l (k + 1) = V at *
      generalize cyc l (k + 1 + 1) = U at *
      obtain ⟨x1, y1⟩ := V
      obtain ⟨x2, y2⟩ := U
      dsimp only at d0 d1 d2 d3 HLk b0 b1
      generalize hkk : k + 1 = k1 at *
      generalize (k1 + 1) % l.length = q at *
      have B0 : big 400000 x1 y1 := by unfold big; omega
      have B1 : big 400000 x2 y2 := by unfold big; omega
      have B3 : big 800000 (x2 - x1) (y2 - y1) := by unfold big; omega
      have B4 : big 800000 (x - x1) (y - y1) := by unfold big; omega
      have HD := Lib.hid (fun w' => l1DetBig_any (x2 - x1) (y2 - y1) (x - x1) (y - y1) w' B3 B4)
      generalize hDD : detZ (x2 - x1) (y2 - y1) (x - x1) (y - y1) = D at HD HLk
      have tt0 := cell_lt d0
      have tt1 := cell_lt d2
      have tt2 := cell_lt a0
      have HQk := Lib.hid (rfl : Q k = Q k)
      generalize hQk : Q k = QK at *
      have HKK := Lib.hid hkk
      have hs := hB.size
      clear hDD b0 b1 B3 B4 HMb HLs HVS HA0 HA1 hkk hQk HQk
      go_wp2
      go_region_held3 (fun w' => w'.cell? ⟨bb, off + k1 * 2, none⟩ = some (.int .i64 (x1)) ∧ w'.cell? ⟨bb, off + k1 * 2 + 1, none⟩ = some (.int .i64 (y1)) ∧ w'.cell? ⟨bb, off + q * 2, none⟩ = some (.int .i64 (x2)) ∧ w'.cell? ⟨bb, off + q * 2 + 1, none⟩ = some (.int .i64 (y2)) ∧ w'.cell? ⟨w.heap.size, 0, none⟩ = some (.int .i64 (x)) ∧ w'.cell? ⟨w.heap.size, 1, none⟩ = some (.int .i64 (y)) ∧ Below (W1.heap.size) wr w') ((go_split_ands; refine ⟨by (first | (with_reducible assumption) | (go_keep; done) | (go_cell; done) | (go_simp; done) | (simp [*]; done)), by (first | (with_reducible assumption) | (go_keep; done) | (go_cell; done) | (go_simp; done) | (simp [*]; done)), by (first | (with_reducible assumption) | (go_keep; done) | (go_cell; done) | (go_simp; done) | (simp [*]; done)), by (first | (with_reducible assumption) | (go_keep; done) | (go_cell; done) | (go_simp; done) | (simp [*]; done)), by (first | (with_reducible assumption) | (go_keep; done) | (go_cell; done) | (go_simp; done) | (simp [*]; done)), by (first | (with_reducible assumption) | (go_keep; done) | (go_cell; done) | (go_simp; done) | (simp [*]; done)), by first | (with_reducible assumption) | (go_grown; done)⟩)) (first | (go_at_call 54; go_call (l6gWay_any _ _ _ _ _ (by assumption) (by assumption)) as e w1 ⟨rfl, hb0⟩; go_split_ands; have q0 : w1.cell? ⟨bb, off + k1 * 2, none⟩ = some (.int .i64 (x1)) := (hb0.cell (p := ⟨bb, off + k1 * 2, none⟩) (by first | (with_reducible assumption) | (go_size; done) | (simp; omega))).trans (by first | (with_reducible assumption) | (go_keep; done) | (go_cell; done) | (go_simp; done) | (simp [*]; done)); have q1 : w1.cell? ⟨bb, off + k1 * 2 + 1, none⟩ = some (.int .i64 (y1)) := (hb0.cell (p := ⟨bb, off + k1 * 2 + 1, none⟩) (by first | (with_reducible assumption) | (go_size; done) | (simp; omega))).trans (by first | (with_reducible assumption) | (go_keep; done) | (go_cell; done) | (go_simp; done) | (simp [*]; done)); have q2 : w1.cell? ⟨bb, off + q * 2, none⟩ = some (.int .i64 (x2)) := (hb0.cell (p := ⟨bb, off + q * 2, none⟩) (by first | (with_reducible assumption) | (go_size; done) | (simp; omega))).trans (by first | (with_reducible assumption) | (go_keep; done) | (go_cell; done) | (go_simp; done) | (simp [*]; done)); have q3 : w1.cell? ⟨bb, off + q * 2 + 1, none⟩ = some (.int .i64 (y2)) := (hb0.cell (p := ⟨bb, off + q * 2 + 1, none⟩) (by first | (with_reducible assumption) | (go_size; done) | (simp; omega))).trans (by first | (with_reducible assumption) | (go_keep; done) | (go_cell; done) | (go_simp; done) | (simp [*]; done)); have q4 : w1.cell? ⟨w.heap.size, 0, none⟩ = some (.int .i64 (x)) := (hb0.cell (p := ⟨w.heap.size, 0, none⟩) (by first | (with_reducible assumption) | (go_size; done) | (simp; omega))).trans (by first | (with_reducible assumption) | (go_keep; done) | (go_cell; done) | (go_simp; done) | (simp [*]; done)); have q5 : w1.cell? ⟨w.heap.size, 1, none⟩ = some (.int .i64 (y)) := (hb0.cell (p := ⟨w.heap.size, 1, none⟩) (by first | (with_reducible assumption) | (go_size; done) | (simp; omega))).trans (by first | (with_reducible assumption) | (go_keep; done) | (go_cell; done) | (go_simp; done) | (simp [*]; done)); have hs0 : bb < w1.heap.size := Nat.lt_of_lt_of_le (by first | (with_reducible assumption) | (go_size; done) | (simp; omega)) hb0.size; have hs1 : w.heap.size < w1.heap.size := Nat.lt_of_lt_of_le (by first | (with_reducible assumption) | (go_size; done) | (simp; omega)) hb0.size; have hT : Below (W1.heap.size) wr w1 := Below.trans (by first | (with_reducible assumption) | (go_grown; done)) (hb0.mono (by first | (with_reducible assumption) | (go_size; done) | (simp; omega) | omega)); have hTs := hT.size; (try have hT2 : Below wr.heap.size wr w1 := belowTo (by first | (with_reducible assumption) | (go_grown; done)) hb0); clear hb0) | (go_at_call 55; go_call (HD.out _) as e w1 ⟨rfl, hb0⟩; go_split_ands; have q0 : w1.cell? ⟨bb, off + k1 * 2, none⟩ = some (.int .i64 (x1)) := (hb0.cell (p := ⟨bb, off + k1 * 2, none⟩) (by first | (with_reducible assumption) | (go_size; done) | (simp; omega))).trans (by first | (with_reducible assumption) | (go_keep; done) | (go_cell; done) | (go_simp; done) | (simp [*]; done)); have q1 : w1.cell? ⟨bb, off + k1 * 2 + 1, none⟩ = some (.int .i64 (y1)) := (hb0.cell (p := ⟨bb, off + k1 * 2 + 1, none⟩) (by first | (with_reducible assumption) | (go_size; done) | (simp; omega))).trans (by first | (with_reducible assumption) | (go_keep; done) | (go_cell; done) | (go_simp; done) | (simp [*]; done)); have q2 : w1.cell? ⟨bb, off + q * 2, none⟩ = some (.int .i64 (x2)) := (hb0.cell (p := ⟨bb, off + q * 2, none⟩) (by first | (with_reducible assumption) | (go_size; done) | (simp; omega))).trans (by first | (with_reducible assumption) | (go_keep; done) | (go_cell; done) | (go_simp; done) | (simp [*]; done)); have q3 : w1.cell? ⟨bb, off + q * 2 + 1, none⟩ = some (.int .i64 (y2)) := (hb0.cell (p := ⟨bb, off + q * 2 + 1, none⟩) (by first | (with_reducible assumption) | (go_size; done) | (simp; omega))).trans (by first | (with_reducible assumption) | (go_keep; done) | (go_cell; done) | (go_simp; done) | (simp [*]; done)); have q4 : w1.cell? ⟨w.heap.size, 0, none⟩ = some (.int .i64 (x)) := (hb0.cell (p := ⟨w.heap.size, 0, none⟩) (by first | (with_reducible assumption) | (go_size; done) | (simp; omega))).trans (by first | (with_reducible assumption) | (go_keep; done) | (go_cell; done) | (go_simp; done) | (simp [*]; done)); have q5 : w1.cell? ⟨w.heap.size, 1, none⟩ = some (.int .i64 (y)) := (hb0.cell (p := ⟨w.heap.size, 1, none⟩) (by first | (with_reducible assumption) | (go_size; done) | (simp; omega))).trans (by first | (with_reducible assumption) | (go_keep; done) | (go_cell; done) | (go_simp; done) | (simp [*]; done)); have hs0 : bb < w1.heap.size := Nat.lt_of_lt_of_le (by first | (with_reducible assumption) | (go_size; done) | (simp; omega)) hb0.size; have hs1 : w.heap.size < w1.heap.size := Nat.lt_of_lt_of_le (by first | (with_reducible assumption) | (go_size; done) | (simp; omega)) hb0.size; have hT : Below (W1.heap.size) wr w1 := Below.trans (by first | (with_reducible assumption) | (go_grown; done)) (hb0.mono (by first | (with_reducible assumption) | (go_size; done) | (simp; omega) | omega)); have hTs := hT.size; (try have hT2 : Below wr.heap.size wr w1 := belowTo (by first | (with_reducible assumption) | (go_grown; done)) hb0); clear hb0))
      have hBk := hB.trans hT
      clear hT hTs B0 B1 d0 d1 d2 d3
      go_wp2
      all_goals
        go_roundw
        case rel => exact ⟨k + 1, by have := HKK.out; omega, by rw [HKK.out, HLk.out]; congr 1; split <;> omega, by have := HKK.out; go_num, hBk⟩
        case measure => have := HKK.out; simp [intOf]; omega
    · have i2 : ¬ ((k + 1 : Nat) : Int) < (l.length : Int) := by omega
      obtain rfl : k = K := by omega
      go_wp2
      go_returns
      exact ⟨rfl, hBw⟩
end Go.Proofs.YtgaeibibeekclaaGreatDoor

/- Polygons, the model's side: what has a vector. -/
namespace Go.Proofs.YtgaeibibeekclaaGreatDoor
open Go.RowKit

end Go.Proofs.YtgaeibibeekclaaGreatDoor

/- Polygons, the model's side: vectors are counted. -/
namespace Go.Proofs.YtgaeibibeekclaaGreatDoor
open Go.RowKit

def mnI (f : Nat → Int) : Nat → Int
  | 0 => 100
  | k + 1 => min (mnI f k) (f k)
def mxI (f : Nat → Int) : Nat → Int
  | 0 => -100
  | k + 1 => max (mxI f k) (f k)
theorem mn_bnd {f : Nat → Int} (h : ∀ i, -100 ≤ f i ∧ f i ≤ 100) : ∀ k, -100 ≤ mnI f k ∧ mnI f k ≤ 100 := by
  intro k
  induction k with
  | zero => exact ⟨by simp [mnI], by simp [mnI]⟩
  | succ k ih => have := h k; unfold mnI; omega
theorem mx_bnd {f : Nat → Int} (h : ∀ i, -100 ≤ f i ∧ f i ≤ 100) : ∀ k, -100 ≤ mxI f k ∧ mxI f k ≤ 100 := by
  intro k
  induction k with
  | zero => exact ⟨by simp [mxI], by simp [mxI]⟩
  | succ k ih => have := h k; unfold mxI; omega
def xsZ (l : List V2) (i : Nat) : Int := (cyc l i).1
def ysZ (l : List V2) (i : Nat) : Int := (cyc l i).2
/-- how many vectors of the box there are whose least determinant is at least s -/
def cntZ (l : List V2) (s : Int) : Int :=
  sumI (fun a => colN (cyc l) l.length s (mnI (xsZ l) l.length + a) (mnI (ysZ l) l.length) (mxI (ysZ l) l.length - mnI (ysZ l) l.length + 1).toNat) (mxI (xsZ l) l.length - mnI (xsZ l) l.length + 1).toNat
theorem col_bnd (p : Nat → P2) (n : Nat) (s x b : Int) (H : Nat) : 0 ≤ colN p n s x b H ∧ colN p n s x b H ≤ H := by
  unfold colN
  induction H with
  | zero => exact ⟨Int.le_refl _, Int.le_refl _⟩
  | succ H ih => rw [sumI_succ]; split <;> omega
theorem cnt_bnd (p : Nat → P2) (n : Nat) (s x b : Int) (H : Nat) (W : Nat) : 0 ≤ sumI (fun a => colN p n s (x + a) b H) W ∧ sumI (fun a => colN p n s (x + a) b H) W ≤ H * W := by
  induction W with
  | zero => exact ⟨Int.le_refl _, by simp [sumI]⟩
  | succ W ih =>
    have := col_bnd p n s (x + W) b H
    rw [sumI_succ]
    have e : (H : Int) * ((W + 1 : Nat) : Int) = H * W + H := by rw [Int.natCast_add, Int.mul_add]; simp
    omega
set_option maxRecDepth 100000 in
set_option maxHeartbeats 32000000 in
theorem l6gCount_any (v : Value) (l : List V2) (s : Int) (w : World) (h : ReadsVecs w v l) (hp : polyB l = true) :
    Calls Tryz.prog 43 #[v, .int .i64 s] w fun e w' => e = .returned (.int .i64 (cntZ l s)) ∧ Below w.heap.size w w' := by
  have h30 := poly_len hp
  have h0 : 0 < l.length := by omega
  have HL := Lib.hid (fun x y w' (hb : Below w.heap.size w w') hv => l6gLeast_any v l x y w' (h.below hb) hp hv)
  obtain ⟨bb, off, vc, rfl, _, _, hbv, hvs⟩ := h.open h0
  have HVS := Lib.hid hvs
  have HIn := Lib.hid (fun z => least_ins (l := l) (z := z) (s := s) h0)
  have hxs : ∀ i, -100 ≤ xsZ l i ∧ xsZ l i ≤ 100 := fun i => (poly_small hp i).1
  have hys : ∀ i, -100 ≤ ysZ l i ∧ ysZ l i ≤ 100 := fun i => (poly_small hp i).2
  have HSx1 : Hid (∀ k, mnI (xsZ l) (k + 1) = min (mnI (xsZ l) k) (cyc l k).1) := fun _ => rfl
  have HSx2 : Hid (∀ k, mxI (xsZ l) (k + 1) = max (mxI (xsZ l) k) (cyc l k).1) := fun _ => rfl
  have HSy1 : Hid (∀ k, mnI (ysZ l) (k + 1) = min (mnI (ysZ l) k) (cyc l k).2) := fun _ => rfl
  have HSy2 : Hid (∀ k, mxI (ysZ l) (k + 1) = max (mxI (ysZ l) k) (cyc l k).2) := fun _ => rfl
  have H01 : Hid (mnI (xsZ l) 0 = 100) := rfl
  have H02 : Hid (mxI (xsZ l) 0 = -100) := rfl
  have H03 : Hid (mnI (ysZ l) 0 = 100) := rfl
  have H04 : Hid (mxI (ysZ l) 0 = -100) := rfl
  unfold cntZ
  have HX1 := Lib.hid (mn_bnd hxs l.length)
  have HX2 := Lib.hid (mx_bnd hxs l.length)
  have HY1 := Lib.hid (mn_bnd hys l.length)
  have HY2 := Lib.hid (mx_bnd hys l.length)
  obtain ⟨X0, hX0⟩ : ∃ X0, X0 = mnI (xsZ l) l.length := ⟨_, rfl⟩
  obtain ⟨X1, hX1⟩ : ∃ X1, X1 = mxI (xsZ l) l.length := ⟨_, rfl⟩
  obtain ⟨Y0, hY0⟩ : ∃ Y0, Y0 = mnI (ysZ l) l.length := ⟨_, rfl⟩
  obtain ⟨Y1, hY1⟩ : ∃ Y1, Y1 = mxI (ysZ l) l.length := ⟨_, rfl⟩
  rw [← hX0] at HX1
  rw [← hX1] at HX2
  rw [← hY0] at HY1
  rw [← hY1] at HY2
  rw [← hX0, ← hX1, ← hY0, ← hY1]
  obtain ⟨W, hW⟩ : ∃ W, W = (X1 - X0 + 1).toNat := ⟨_, rfl⟩
  obtain ⟨H, hH⟩ : ∃ H, H = (Y1 - Y0 + 1).toNat := ⟨_, rfl⟩
  rw [← hW, ← hH]
  have HCB := Lib.hid (fun x u => col_bnd (cyc l) l.length s x Y0 u)
  have HTB := Lib.hid (fun t => cnt_bnd (cyc l) l.length s X0 Y0 H t)
  have HCs : Hid (∀ x (u : Nat), colN (cyc l) l.length s x Y0 (u + 1) = colN (cyc l) l.length s x Y0 u + (if insB (cyc l) l.length s (x, Y0 + (u : Int)) then 1 else 0)) := fun _ _ => rfl
  have HC0 : Hid (∀ x, colN (cyc l) l.length s x Y0 0 = 0) := fun _ => rfl
  have HTs : Hid (∀ t : Nat, sumI (fun a => colN (cyc l) l.length s (X0 + a) Y0 H) (t + 1) = sumI (fun a => colN (cyc l) l.length s (X0 + a) Y0 H) t + colN (cyc l) l.length s (X0 + (t : Int)) Y0 H) := fun _ => rfl
  have HT0 : Hid (sumI (fun a => colN (cyc l) l.length s (X0 + a) Y0 H) 0 = 0) := rfl
  generalize (sumI fun a : Nat => colN (cyc l) l.length s (X0 + a) Y0 H) = T at *
  generalize (colN (cyc l) l.length s) = C at *
  have HX0 := Lib.hid hX0
  have HX1' := Lib.hid hX1
  have HY0 := Lib.hid hY0
  have HY1' := Lib.hid hY1
  have hsz : (H : Int) ≤ 1000 ∧ (W : Int) ≤ 1000 := by
    have a1 := HX1.out
    have a2 := HX2.out
    have a3 := HY1.out
    have a4 := HY2.out
    omega
  have HW := Lib.hid hW
  have HH := Lib.hid hH
  clear hW hH hX0 hX1 hY0 hY1
  generalize mnI (xsZ l) = A1 at *
  generalize mxI (xsZ l) = A2 at *
  generalize mnI (ysZ l) = A3 at *
  generalize mxI (ysZ l) = A4 at *
  clear hxs hys h hvs hp
  go_enter Tryz.func43, Tryz.ntmps43
  go_wp2
  go_loopw [6] (fun s6 wr => ∃ k : Nat, k ≤ l.length ∧ s6 = .int .i64 (k : Int) ∧ (wr.cell? ⟨w.heap.size, 0, none⟩ = some (.int .i64 (A1 k)) ∧ wr.cell? ⟨w.heap.size, 1, none⟩ = some (.int .i64 (A2 k)) ∧ wr.cell? ⟨w.heap.size, 2, none⟩ = some (.int .i64 (A3 k)) ∧ wr.cell? ⟨w.heap.size, 3, none⟩ = some (.int .i64 (A4 k))) ∧ (∀ o, wr.frozen? ⟨w.heap.size, o, none⟩ = false) ∧ Below w.heap.size w wr) (fun s6 _ => l.length - (intOf s6).toNat)
  case atStart => exact ⟨0, Nat.zero_le _, rfl, by rw [H01.out, H02.out, H03.out, H04.out]; simp, fun o => by simp, by go_grown⟩
  case round =>
    obtain ⟨k, hk, rfl, ⟨a1, a2, a3, a4⟩, hfz, hB⟩ := hrel
    have i1 : (0 : Int) ≤ (k : Int) := by omega
    by_cases hlt : k < l.length
    · have i2 : (k : Int) < (l.length : Int) := by omega
      obtain ⟨d0, d1⟩ := HVS.out wr hB k hlt
      have f0 := hfz 0
      have f1 := hfz 1
      have f2 := hfz 2
      have f3 := hfz 3
      have K1 := Lib.hid (HSx1.out k)
      have K2 := Lib.hid (HSx2.out k)
      have K3 := Lib.hid (HSy1.out k)
      have K4 := Lib.hid (HSy2.out k)
      generalize cyc l k = V at *
      obtain ⟨x1, y1⟩ := V
      dsimp only at d0 d1 K1 K2 K3 K4
      have tt := cell_lt a1
      have HF := Lib.hid hfz
      clear HL HIn HX1 HX2 HY1 HY2 HSx1 HSx2 HSy1 HSy2 H01 H02 H03 H04 HCB HTB HCs HC0 HTs HT0 HVS hfz HX0 HX1' HY0 HY1' HW HH hsz
      go_wp2
      go_still_tail 33, (by kernel_rfl)
      change wpList _ _ _ _ _ (World.drew wr)
      have b1 : (World.drew wr).cell? ⟨w.heap.size, 0, none⟩ = some (.int .i64 (A1 k)) := a1
      have b2 : (World.drew wr).cell? ⟨w.heap.size, 1, none⟩ = some (.int .i64 (A2 k)) := a2
      have b3 : (World.drew wr).cell? ⟨w.heap.size, 2, none⟩ = some (.int .i64 (A3 k)) := a3
      have b4 : (World.drew wr).cell? ⟨w.heap.size, 3, none⟩ = some (.int .i64 (A4 k)) := a4
      have g0 : (World.drew wr).frozen? ⟨w.heap.size, 0, none⟩ = false := f0
      have g1 : (World.drew wr).frozen? ⟨w.heap.size, 1, none⟩ = false := f1
      have g2 : (World.drew wr).frozen? ⟨w.heap.size, 2, none⟩ = false := f2
      have g3 : (World.drew wr).frozen? ⟨w.heap.size, 3, none⟩ = false := f3
      have GF : Hid (∀ o, (World.drew wr).frozen? ⟨w.heap.size, o, none⟩ = false) := HF.out
      have hBd : Below w.heap.size w (World.drew wr) := by go_grown
      generalize World.drew wr = W2 at *
      clear a1 a2 a3 a4 f0 f1 f2 f3 HF hB d0 d1 tt
      go_wp2
      go_roundw
      case rel =>
        refine ⟨k + 1, by omega, by go_num, ⟨?_, ?_, ?_, ?_⟩, fun o => ?_, ?_⟩
        · rw [K1.out]
          have e : min (A1 k) x1 = if x1 < A1 k then x1 else A1 k := by split <;> omega
          rw [e]
          first | (go_cell; done) | (go_simp; done) | (simp; done)
        · rw [K2.out]
          have e : max (A2 k) x1 = if A2 k < x1 then x1 else A2 k := by split <;> omega
          rw [e]
          first | (go_cell; done) | (go_simp; done) | (simp; done)
        · rw [K3.out]
          have e : min (A3 k) y1 = if y1 < A3 k then y1 else A3 k := by split <;> omega
          rw [e]
          first | (go_cell; done) | (go_simp; done) | (simp; done)
        · rw [K4.out]
          have e : max (A4 k) y1 = if A4 k < y1 then y1 else A4 k := by split <;> omega
          rw [e]
          first | (go_cell; done) | (go_simp; done) | (simp; done)
        · have := GF.out o
          simp [this]
        · go_grown
      case measure => simp [intOf]; omega
    · obtain rfl : k = l.length := by omega
      have i2 : ¬ ((l.length : Nat) : Int) < (l.length : Int) := by omega
      rw [← HX0.out] at a1
      rw [← HX1'.out] at a2
      rw [← HY0.out] at a3
      rw [← HY1'.out] at a4
      obtain ⟨x1, x1'⟩ := HX1.out
      obtain ⟨x2, x2'⟩ := HX2.out
      obtain ⟨y1, y1'⟩ := HY1.out
      obtain ⟨y2, y2'⟩ := HY2.out
      have tt := cell_lt a1
      have hB1 := hB
      clear HX1 HX2 HY1 HY2 HSx1 HSx2 HSy1 HSy2 H01 H02 H03 H04 hfz HVS HX0 HX1' HY0 HY1' hB
      generalize hWr : wr = W1 at *
      clear hWr
      have HA1 := Lib.hid a1
      have HA2 := Lib.hid a2
      have HA3 := Lib.hid a3
      have HA4 := Lib.hid a4
      have hs1 := hB1.size
      go_wp2
      go_loopw [7, 8] (fun s7 s8 wr => ∃ t : Nat, t ≤ W ∧ s7 = .int .i64 (T t) ∧ s8 = .int .i64 (X0 + (t : Int)) ∧ Below W1.heap.size W1 wr) (fun _ s8 _ => (X1 + 1 - intOf s8).toNat)
      case atStart => exact ⟨0, Nat.zero_le _, by rw [HT0.out], by simp, Below.refl _ _⟩
      case round =>
        obtain ⟨t, ht, rfl, rfl, hB⟩ := hrel
        have a2 := (hB.cell (p := ⟨w.heap.size, 1, none⟩) tt).trans HA2.out
        by_cases hlt : t < W
        · have hle : X0 + (t : Int) ≤ X1 := by have := HW.out; omega
          have a3 := (hB.cell (p := ⟨w.heap.size, 2, none⟩) tt).trans HA3.out
          have tb := HTB.out t
          have HTk := Lib.hid (HTs.out t)
          have tk := HTs.out t
          have ck := fun u => HCB.out (X0 + (t : Int)) u
          have HCk := Lib.hid (fun u => HCs.out (X0 + (t : Int)) u)
          have HC0k := Lib.hid (HC0.out (X0 + (t : Int)))
          have hW2 : (H : Int) * (t : Int) ≤ 1000 * 1000 := Int.mul_le_mul (by omega) (by omega) (by omega) (by omega)
          have HCB2 : Hid (∀ u, 0 ≤ C (X0 + (t : Int)) Y0 u ∧ C (X0 + (t : Int)) Y0 u ≤ (u : Int)) := ck
          have hTb : 0 ≤ T t ∧ T t ≤ 1000000 := by omega
          generalize hTq : T t = TT at *
          have HTq := Lib.hid hTq
          clear tb ck hTq hW2 tk HTB HTs HCB HCs HC0 HT0
          go_wp2
          go_loopw [7, 9] (fun s7 s9 wr => ∃ u : Nat, u ≤ H ∧ s7 = .int .i64 (TT + C (X0 + (t : Int)) Y0 u) ∧ s9 = .int .i64 (Y0 + (u : Int)) ∧ Below W1.heap.size W1 wr) (fun _ s9 _ => (Y1 + 1 - intOf s9).toNat)
          case atStart => exact ⟨0, Nat.zero_le _, by rw [HC0k.out]; simp, by simp, hB⟩
          case round =>
            clear hB a2 a3
            obtain ⟨u, hu, rfl, rfl, hB⟩ := hrel
            have a4 := (hB.cell (p := ⟨w.heap.size, 3, none⟩) tt).trans HA4.out
            have cu := HCB2.out u
            by_cases hlu : u < H
            · have hle2 : Y0 + (u : Int) ≤ Y1 := by have := HH.out; omega
              have HLk := Lib.hid (HL.out (X0 + (t : Int)) (Y0 + (u : Int)) _ (hB1.trans (hB.mono hs1)) (vec_of (by omega)))
              have HIk := Lib.hid (HIn.out (X0 + (t : Int), Y0 + (u : Int)))
              have HCu := Lib.hid (HCk.out u)
              generalize hz : insB (cyc l) l.length s (X0 + (t : Int), Y0 + (u : Int)) = z at HIk HCu
              generalize leastZ l (X0 + (t : Int), Y0 + (u : Int)) (l.length - 1) = D at HLk HIk
              clear hz
              have q1 : IntKind.i64.wrap (Y0 + (u : Int) + 1) = Y0 + ((u + 1 : Nat) : Int) := by rw [IntKind.wrap_i64]; omega
              have q2 : IntKind.i64.wrap (TT + C (X0 + (t : Int)) Y0 u + 1) = TT + C (X0 + (t : Int)) Y0 u + 1 := by rw [IntKind.wrap_i64]; omega
              clear cu HL HIn HCk HC0k HCB2
              go_wp2_with fail
              refine Calls.mono HLk.out ?_
              rintro e w2 ⟨rfl, hb2⟩
              have hB2 := belowTo hB hb2
              clear hb2 hB HLk a4
              cases z
              · have hD : ¬ s ≤ D := by have := HIk.out; simpa using this
                have hD' : decide (s ≤ D) = false := by simpa using hD
                clear HIk
                go_wp2
                go_roundw
                case rel => exact ⟨u + 1, by omega, by rw [HCu.out]; simp, by first | rfl | (congr 1; omega), hB2⟩
                case measure => simp [intOf]; omega
              · have hD : s ≤ D := by have := HIk.out; simpa using this
                clear HIk
                go_wp2
                go_roundw
                case rel => exact ⟨u + 1, by omega, by rw [HCu.out]; simp; omega, by first | rfl | (congr 1; omega), hB2⟩
                case measure => simp [intOf]; omega
            · obtain rfl : u = H := by omega
              have hle2 : ¬ Y0 + (u : Int) ≤ Y1 := by have := HH.out; omega
              have q1 : IntKind.i64.wrap (X0 + (t : Int) + 1) = X0 + ((t + 1 : Nat) : Int) := by rw [IntKind.wrap_i64]; omega
              clear cu HL HIn HCk HC0k HCB2
              go_wp2
              go_roundw
              case rel => exact ⟨t + 1, by omega, by rw [HTk.out], by first | rfl | (congr 1; omega), hB⟩
              case measure => simp [intOf]; omega
        · obtain rfl : t = W := by omega
          have hle : ¬ X0 + (t : Int) ≤ X1 := by have := HW.out; omega
          go_wp2
          go_returns
          exact ⟨rfl, hB1.trans (hB.mono hs1)⟩
end Go.Proofs.YtgaeibibeekclaaGreatDoor

/- Polygons: inner vectors and all vectors: Pick's formula at a list of corners; both sides. -/
namespace Go.Proofs.YtgaeibibeekclaaGreatDoor
open Go.RowKit

theorem sumI_Z (f : Nat → Int) (n : Nat) : sumI f n = sumZ f n := by
  induction n with
  | zero => rfl
  | succ n ih => rw [sumI_succ, ih]; rfl
theorem mn_le (f : Nat → Int) : ∀ k i, i < k → mnI f k ≤ f i := by
  intro k
  induction k with
  | zero => omega
  | succ k ih =>
    intro i hi
    unfold mnI
    by_cases e : i = k
    · rw [e]; omega
    · have := ih i (by omega); omega
theorem mx_le (f : Nat → Int) : ∀ k i, i < k → f i ≤ mxI f k := by
  intro k
  induction k with
  | zero => omega
  | succ k ih =>
    intro i hi
    unfold mxI
    by_cases e : i = k
    · rw [e]; omega
    · have := ih i (by omega); omega
theorem mn_at {f : Nat → Int} (h : ∀ i, f i ≤ 100) : ∀ k, 0 < k → ∃ i, i < k ∧ f i = mnI f k := by
  intro k
  induction k with
  | zero => omega
  | succ k ih =>
    intro _
    unfold mnI
    by_cases h0 : k = 0
    · subst h0
      have := h 0
      exact ⟨0, by omega, by unfold mnI; omega⟩
    · obtain ⟨i, hi, e⟩ := ih (by omega)
      rcases Int.lt_or_le (f k) (mnI f k) with c | c
      · exact ⟨k, by omega, by omega⟩
      · exact ⟨i, by omega, by omega⟩
theorem mx_at {f : Nat → Int} (h : ∀ i, -100 ≤ f i) : ∀ k, 0 < k → ∃ i, i < k ∧ f i = mxI f k := by
  intro k
  induction k with
  | zero => omega
  | succ k ih =>
    intro _
    unfold mxI
    by_cases h0 : k = 0
    · subst h0
      have := h 0
      exact ⟨0, by omega, by unfold mxI; omega⟩
    · obtain ⟨i, hi, e⟩ := ih (by omega)
      rcases Int.lt_or_le (mxI f k) (f k) with c | c
      · exact ⟨k, by omega, by omega⟩
      · exact ⟨i, by omega, by omega⟩
theorem cnt_pick {l : List V2} (h : polyB l = true) : 2 * cntZ l 0 = areaZ l + edgeZ l l.length + 2 ∧ 2 * cntZ l 1 = areaZ l - edgeZ l l.length + 2 := by
  have h3 := poly_len h
  have hc := poly_conv h
  have hx : ∀ i, -100 ≤ xsZ l i ∧ xsZ l i ≤ 100 := fun i => (poly_small h i).1
  have hy : ∀ i, -100 ≤ ysZ l i ∧ ysZ l i ≤ 100 := fun i => (poly_small h i).2
  have xm : ∀ i, xsZ l (i % l.length) = xsZ l i := fun i => by unfold xsZ; rw [cyc_mod]
  have ym : ∀ i, ysZ l (i % l.length) = ysZ l i := fun i => by unfold ysZ; rw [cyc_mod]
  have x0 : ∀ i, mnI (xsZ l) l.length ≤ xsZ l i := fun i => by rw [← xm]; exact mn_le _ _ _ (Nat.mod_lt _ (by omega))
  have x1 : ∀ i, xsZ l i ≤ mxI (xsZ l) l.length := fun i => by rw [← xm]; exact mx_le _ _ _ (Nat.mod_lt _ (by omega))
  have y0 : ∀ i, mnI (ysZ l) l.length ≤ ysZ l i := fun i => by rw [← ym]; exact mn_le _ _ _ (Nat.mod_lt _ (by omega))
  have y1 : ∀ i, ysZ l i ≤ mxI (ysZ l) l.length := fun i => by rw [← ym]; exact mx_le _ _ _ (Nat.mod_lt _ (by omega))
  obtain ⟨i0, _, e0⟩ := mn_at (fun i => (hx i).2) l.length (by omega)
  obtain ⟨i1, _, e1⟩ := mx_at (fun i => (hx i).1) l.length (by omega)
  have w0 := x0 i1
  have v0 := y0 0
  have v1 := y1 0
  have hb : InBox (cyc l) (mnI (ysZ l) l.length) (mxI (ysZ l) l.length - mnI (ysZ l) l.length + 1).toNat := fun k => by
    have a := y0 k
    have b := y1 k
    unfold ysZ at *
    omega
  have hh := pick_all hc hb (x0 := mnI (xsZ l) l.length) (W := (mxI (xsZ l) l.length - mnI (xsZ l) l.length).toNat) (fun k => by
    have a := x0 k
    have b := x1 k
    unfold xsZ at *
    omega) ⟨i0, e0⟩ ⟨i1, by
    unfold xsZ at *
    omega⟩
  have eA : areaI (cyc l) l.length = areaZ l := sumI_Z _ _
  have eE : edgeI (cyc l) l.length = edgeZ l l.length := sumI_Z _ _
  have eW : (mxI (xsZ l) l.length - mnI (xsZ l) l.length + 1).toNat = (mxI (xsZ l) l.length - mnI (xsZ l) l.length).toNat + 1 := by omega
  rw [eA, eE] at hh
  unfold cntZ
  rw [eW]
  exact hh
theorem inner_cnt {l : List V2} (h : polyB l = true) : cntZ l 1 = innerZ l ∧ cntZ l 0 = innerZ l + edgeZ l l.length := by
  obtain ⟨a, b⟩ := cnt_pick h
  have e : innerZ l = cntZ l 1 := by
    unfold innerZ
    rw [show areaZ l - edgeZ l l.length + 2 = cntZ l 1 * 2 by omega]
    exact Int.mul_tdiv_cancel _ (by omega)
  omega
set_option maxHeartbeats 4000000 in
theorem specPolygonInner_any (v : Value) (l : List V2) (w : World) (h : ReadsVecs w v l) :
    Calls Tryz.prog 19 #[v] w fun e w' => e = .returned (.tuple #[.int .i64 (gate (polyB l) (innerZ l)), .bool (polyB l)]) ∧ Below w.heap.size w w' := by
  have HC := Lib.hid (specPolygonIn_any v l w h)
  have HE := Lib.hid (fun hp => inner_cnt (l := l) hp)
  have H0 := Lib.hid (fun w' (hb : Below w.heap.size w w') (hp : polyB l = true) => l6gCount_any v l 1 w' (h.below hb) hp)
  obtain ⟨a, c, rfl, _⟩ := h
  cases hk : polyB l
  · rw [hk] at HC
    clear hk H0
    go_enter Tryz.func19, Tryz.ntmps19
    go_wp2_with fail
    refine Calls.mono HC.out ?_
    rintro e w1 ⟨rfl, hb⟩
    go_wp2
    go_returns
    exact ⟨rfl, hb⟩
  · rw [hk] at HC
    have HK := Lib.hid hk
    have e : gate true (innerZ l) = cntZ l 1 := by rw [gate_true]; have := HE.out hk; omega
    rw [e]
    clear hk e HE
    generalize cntZ l 1 = z at *
    go_enter Tryz.func19, Tryz.ntmps19
    go_wp2_with fail
    refine Calls.mono HC.out ?_
    rintro e w1 ⟨rfl, hb⟩
    go_wp2_with fail
    refine Calls.mono (H0.out _ hb HK.out) ?_
    rintro e w3 ⟨rfl, hb3⟩
    replace hb := belowTo hb hb3
    clear hb3
    go_wp2
    go_returns
    exact ⟨rfl, hb⟩
end Go.Proofs.YtgaeibibeekclaaGreatDoor
