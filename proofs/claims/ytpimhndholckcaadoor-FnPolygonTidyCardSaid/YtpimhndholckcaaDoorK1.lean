import Derived.Test.YtpimhndholckcaaDoorBj
import Derived.Test.YtpimhndholckcaaDoorBs
import Derived.Test.YtpimhndholckcaaDoorWf
import Derived.StillTailTactics
import Derived.Test.YtpimhndholckcaaDoorBh
/- Polygons: edges, normals, the exported functions: the program. -/
namespace Go.Proofs.YtpimhndholckcaaDoor
open Go.RowKit

theorem polyEnd_cases {b : Bool} {e : Ending} (h : PolyEnd b e) : (b = true ∧ e = .returned .nilIface) ∨ (b = false ∧ ∃ s, e = .returned (.iface 57 (.agg #[.string s]))) := polyEnd_of h
theorem way_nz {l : List V2} (h : polyB l = true) (i : Nat) : ¬ ((wayZ l i).1 = 0 ∧ (wayZ l i).2 = 0) := by
  rintro ⟨h1, h2⟩
  have t : 0 < detV (wayZ l i) (wayZ l (i + 1)) := (poly_conv h).turn i
  unfold detV detZ at t
  rw [h1, h2] at t
  omega
theorem way_vec {l : List V2} (h : polyB l = true) (i : Nat) : vecB (wayZ l i).1 (wayZ l i).2 = true := vec_of (by have := way_small (allK_all (poly_in h).2.1 (by have := poly_len h; omega)) i; omega)
/-- the vectors on the edges -/
def edgeZ (l : List V2) (k : Nat) : Int := sumZ (fun i => gcdZ (wayZ l i).1 (wayZ l i).2) k
theorem edge_bnd {l : List V2} (h : polyB l = true) : ∀ k, 0 ≤ edgeZ l k ∧ edgeZ l k ≤ 1000 * k := by
  intro k
  induction k with
  | zero => exact ⟨Int.le_refl _, Int.le_refl _⟩
  | succ k ih =>
    have := szs (way_vec h k)
    have a := gcdZ_le (n := 1000) this.1 this.2
    have b := gcdZ_nonneg (wayZ l k).1 (wayZ l k).2
    unfold edgeZ at *
    rw [show sumZ (fun i => gcdZ (wayZ l i).1 (wayZ l i).2) (k + 1) = sumZ (fun i => gcdZ (wayZ l i).1 (wayZ l i).2) k + gcdZ (wayZ l k).1 (wayZ l k).2 from rfl]
    omega
set_option maxRecDepth 100000 in
set_option maxHeartbeats 16000000 in
theorem edge_any (v : Value) (l : List V2) (w : World) (h : ReadsVecs w v l) (hp : polyB l = true) :
    Calls Tryd.prog 30 #[v] w fun e w' => e = .returned (.int .i64 (edgeZ l l.length)) ∧ Below w.heap.size w w' := by
  have h30 := poly_len hp
  have h0 : 0 < l.length := by omega
  have HWy := Lib.hid (fun w' (hb : Below w.heap.size w w') => ways_any v l w' (h.below hb) h0 (by omega) (fun i => by have := poly_small hp i; unfold big; omega))
  have HWc := Lib.hid (fun i => cyc_ways h0 i)
  have HWs := Lib.hid (fun i => szs (way_vec hp i))
  have HWl := Lib.hid (waysL_len l)
  have HEb := Lib.hid (fun k => edge_bnd hp k)
  have HSu : Hid (∀ k, edgeZ l (k + 1) = edgeZ l k + gcdZ (wayZ l k).1 (wayZ l k).2) := fun _ => rfl
  have HS0 : Hid (edgeZ l 0 = 0) := rfl
  have HGb := Lib.hid (fun k => (gcdZ_nonneg (wayZ l k).1 (wayZ l k).2))
  obtain ⟨a, c, rfl, _⟩ := h
  generalize edgeZ l = Q at *
  clear hp
  go_enter Tryd.func30, Tryd.ntmps30
  go_wp2_with fail
  refine Calls.mono (HWy.out _ (by go_grown)) ?_
  rintro e W1 ⟨v1, rfl, hI, hb1⟩
  have HB1 := Lib.hid (show Below w.heap.size w W1 from belowTo (by go_grown) hb1)
  obtain ⟨bw, ow, wc, rfl, _, _, hbw, hws⟩ := (hI.reads (by rw [waysL_len]; omega)).open (by rw [waysL_len]; exact h0)
  have HWS := Lib.hid hws
  clear hb1 hI hws HWy
  have hsW := HB1.out.size
  have hwl := HWl.out
  generalize hn : (waysL l).length = n at *
  subst hwl
  clear hn
  go_wp2
  go_loopw [3, 9] (fun s3 s wr => ∃ k : Nat, k ≤ l.length ∧ s3 = .int .i64 (Q k) ∧ s = .int .i64 k ∧ Below W1.heap.size W1 wr) (fun _ s _ => l.length - (intOf s).toNat)
  case atStart => exact ⟨0, Nat.zero_le _, by rw [HS0.out], rfl, Below.refl _ _⟩
  case round =>
    obtain ⟨k, hk, rfl, rfl, hB⟩ := hrel
    have i1 : (0 : Int) ≤ (k : Int) := by omega
    by_cases hlt : k < l.length
    · have i2 : (k : Int) < (l.length : Int) := by omega
      obtain ⟨d0, d1⟩ := HWS.out wr hB k hlt
      rw [HWc.out k] at d0 d1
      have b1 := HWs.out k
      have e1 := HEb.out k
      have e2 := HEb.out (k + 1)
      have HSk := Lib.hid (HSu.out k)
      have e3 := HSu.out k
      generalize wayZ l k = U at *
      obtain ⟨u1, u2⟩ := U
      dsimp only at d0 d1 b1 HSk e3
      have HG := Lib.hid (fun w' => commonDivisor_any u1 u2 w' b1.1 b1.2)
      generalize gcdZ u1 u2 = g at *
      have q1 : IntKind.i64.wrap (Q k + g) = Q k + g := by rw [IntKind.wrap_i64]; omega
      have hs := hB.size
      clear HWs HEb HSu HS0 HGb HWc HWS e1 e2 e3 b1
      go_wp2_with fail
      refine Calls.mono (HG.out _) ?_
      rintro e w2 ⟨rfl, hb2⟩
      have hBk := hB.trans ((belowTo (a := wr) (by go_grown) hb2).mono hs)
      clear hb2 HG
      go_wp2
      go_roundw
      case rel => exact ⟨k + 1, by omega, by rw [HSk.out], by go_num, hBk⟩
      case measure => simp [intOf]; omega
    · obtain rfl : k = l.length := by omega
      have i2 : ¬ ((l.length : Nat) : Int) < (l.length : Int) := by omega
      go_wp2
      go_returns
      exact ⟨rfl, HB1.out.trans (hB.mono hsW)⟩
theorem poly_allV {l : List V2} (h : polyB l = true) : allV l = true := allV_good (fun k _ => poly_vec h k)
set_option maxHeartbeats 4000000 in
theorem polyArea_any (v : Value) (l : List V2) (w : World) (h : ReadsVecs w v l) (hp : polyB l = true) :
    Calls Tryd.prog 26 #[v] w fun e w' => e = .returned (.int .i64 (areaZ l)) ∧ Below w.heap.size w w' := by
  have h30 := poly_len hp
  have HA := Lib.hid (area_any v l w h (by omega) (by omega) (poly_allV hp))
  obtain ⟨a, c, rfl, _⟩ := h
  generalize areaZ l = z at *
  clear hp
  go_enter Tryd.func26, Tryd.ntmps26
  go_wp2_with fail
  refine Calls.mono HA.out ?_
  rintro e w1 ⟨rfl, hb1⟩
  go_wp2
  go_returns
  exact ⟨rfl, hb1⟩
/-- the inner vectors, by Pick's formula -/
def innerZ (l : List V2) : Int := (areaZ l - edgeZ l l.length + 2).tdiv 2
theorem poly_nums {l : List V2} (h : polyB l = true) : (-2000000000 ≤ areaZ l ∧ areaZ l ≤ 2000000000) ∧ 0 ≤ edgeZ l l.length ∧ edgeZ l l.length ≤ 30000 := by
  have h30 := poly_len h
  have a := area_bnd (poly_allV h) (by omega) (k := l.length) (by omega)
  have b := edge_bnd h l.length
  exact ⟨a, b.1, by omega⟩
set_option maxHeartbeats 4000000 in
theorem inner_any (v : Value) (l : List V2) (w : World) (h : ReadsVecs w v l) (hp : polyB l = true) :
    Calls Tryd.prog 29 #[v] w fun e w' => e = .returned (.int .i64 (innerZ l)) ∧ Below w.heap.size w w' := by
  have HA := Lib.hid (polyArea_any v l w h hp)
  have HE := Lib.hid (fun w' (hb : Below w.heap.size w w') => edge_any v l w' (h.below hb) hp)
  obtain ⟨⟨n1, n2⟩, n3, n4⟩ := poly_nums hp
  have HZ : Hid (innerZ l = (areaZ l - edgeZ l l.length + 2).tdiv 2) := rfl
  obtain ⟨a, c, rfl, _⟩ := h
  generalize areaZ l = z at *
  generalize edgeZ l l.length = g at *
  clear hp
  go_enter Tryd.func29, Tryd.ntmps29
  go_wp2_with fail
  refine Calls.mono HA.out ?_
  rintro e w1 ⟨rfl, hb1⟩
  go_wp2_with fail
  refine Calls.mono (HE.out _ hb1) ?_
  rintro e w2 ⟨rfl, hb2⟩
  have hb := belowTo hb1 hb2
  clear hb1 hb2
  have q1 : IntKind.i64.wrap (z - g) = z - g := by rw [IntKind.wrap_i64]; omega
  have q2 : IntKind.i64.wrap (z - g + 2) = z - g + 2 := by rw [IntKind.wrap_i64]; omega
  have q3 : IntKind.i64.wrap ((z - g + 2).tdiv 2) = (z - g + 2).tdiv 2 := by have := tdiv_bd (x := z - g + 2) (m := 2) (n := 3000000000) (by omega); rw [IntKind.wrap_i64]; omega
  go_wp2
  go_returns
  exact ⟨by rw [HZ.out]; rfl, hb⟩
end Go.Proofs.YtpimhndholckcaaDoor

/- Polygons: the exported functions that tell numbers: the program. -/
namespace Go.Proofs.YtpimhndholckcaaDoor
open Go.RowKit

set_option maxHeartbeats 4000000 in
theorem polygonArea_any (v : Value) (l : List V2) (w : World) (h : ReadsVecs w v l) (hg : EtOk w) :
    Calls Tryd.prog 8 #[v] w fun e w' => e = .returned (.tuple #[.int .i64 (gate (polyB l) (areaZ l)), .bool (polyB l)]) ∧ Below w.heap.size w w' := by
  have HC := Lib.hid (polyCheck_any v l w h)
  have H0 := Lib.hid (fun w' (hb : Below w.heap.size w w') (hp : polyB l = true) => polyArea_any v l w' (h.below hb) hp)
  obtain ⟨a, c, rfl, _⟩ := h
  generalize areaZ l = z at *
  cases hk : polyB l
  · rw [hk] at HC
    clear hk H0
    go_enter Tryd.func8, Tryd.ntmps8
    go_wp2_with fail
    refine Calls.mono HC.out ?_
    rintro e w1 ⟨⟨s, rfl⟩, hb1⟩
    go_wp2_with fail
    refine Calls.mono (none_hit s _ (hg.below hb1)) ?_
    rintro e w2 ⟨rfl, hb2⟩
    have hb := belowTo hb1 hb2
    clear hb1 hb2
    go_wp2
    go_returns
    exact ⟨rfl, hb⟩
  · rw [hk] at HC
    have HK := Lib.hid hk
    clear hk
    have HC2 := Lib.hid (HC.out.mono (fun e w' h => (⟨h.1, h.2⟩ : e = .returned .nilIface ∧ Below w.heap.size w w')))
    clear HC
    go_enter Tryd.func8, Tryd.ntmps8
    go_wp2_with fail
    refine Calls.mono HC2.out ?_
    rintro e w1 ⟨rfl, hb⟩
    go_wp2_with fail
    refine Calls.mono (none_nil _) ?_
    rintro e w2 ⟨rfl, hb2⟩
    replace hb := belowTo hb hb2
    clear hb2
    go_wp2_with fail
    refine Calls.mono (H0.out _ hb HK.out) ?_
    rintro e w3 ⟨rfl, hb3⟩
    replace hb := belowTo hb hb3
    clear hb3
    go_wp2
    go_returns
    exact ⟨rfl, hb⟩
set_option maxHeartbeats 4000000 in
theorem polygonEdge_any (v : Value) (l : List V2) (w : World) (h : ReadsVecs w v l) (hg : EtOk w) :
    Calls Tryd.prog 11 #[v] w fun e w' => e = .returned (.tuple #[.int .i64 (gate (polyB l) (edgeZ l l.length)), .bool (polyB l)]) ∧ Below w.heap.size w w' := by
  have HC := Lib.hid (polyCheck_any v l w h)
  have H0 := Lib.hid (fun w' (hb : Below w.heap.size w w') (hp : polyB l = true) => edge_any v l w' (h.below hb) hp)
  obtain ⟨a, c, rfl, _⟩ := h
  generalize edgeZ l l.length = z at *
  cases hk : polyB l
  · rw [hk] at HC
    clear hk H0
    go_enter Tryd.func11, Tryd.ntmps11
    go_wp2_with fail
    refine Calls.mono HC.out ?_
    rintro e w1 ⟨⟨s, rfl⟩, hb1⟩
    go_wp2_with fail
    refine Calls.mono (none_hit s _ (hg.below hb1)) ?_
    rintro e w2 ⟨rfl, hb2⟩
    have hb := belowTo hb1 hb2
    clear hb1 hb2
    go_wp2
    go_returns
    exact ⟨rfl, hb⟩
  · rw [hk] at HC
    have HK := Lib.hid hk
    clear hk
    have HC2 := Lib.hid (HC.out.mono (fun e w' h => (⟨h.1, h.2⟩ : e = .returned .nilIface ∧ Below w.heap.size w w')))
    clear HC
    go_enter Tryd.func11, Tryd.ntmps11
    go_wp2_with fail
    refine Calls.mono HC2.out ?_
    rintro e w1 ⟨rfl, hb⟩
    go_wp2_with fail
    refine Calls.mono (none_nil _) ?_
    rintro e w2 ⟨rfl, hb2⟩
    replace hb := belowTo hb hb2
    clear hb2
    go_wp2_with fail
    refine Calls.mono (H0.out _ hb HK.out) ?_
    rintro e w3 ⟨rfl, hb3⟩
    replace hb := belowTo hb hb3
    clear hb3
    go_wp2
    go_returns
    exact ⟨rfl, hb⟩
set_option maxHeartbeats 4000000 in
theorem polygonInner_any (v : Value) (l : List V2) (w : World) (h : ReadsVecs w v l) (hg : EtOk w) :
    Calls Tryd.prog 10 #[v] w fun e w' => e = .returned (.tuple #[.int .i64 (gate (polyB l) (innerZ l)), .bool (polyB l)]) ∧ Below w.heap.size w w' := by
  have HC := Lib.hid (polyCheck_any v l w h)
  have H0 := Lib.hid (fun w' (hb : Below w.heap.size w w') (hp : polyB l = true) => inner_any v l w' (h.below hb) hp)
  obtain ⟨a, c, rfl, _⟩ := h
  generalize innerZ l = z at *
  cases hk : polyB l
  · rw [hk] at HC
    clear hk H0
    go_enter Tryd.func10, Tryd.ntmps10
    go_wp2_with fail
    refine Calls.mono HC.out ?_
    rintro e w1 ⟨⟨s, rfl⟩, hb1⟩
    go_wp2_with fail
    refine Calls.mono (none_hit s _ (hg.below hb1)) ?_
    rintro e w2 ⟨rfl, hb2⟩
    have hb := belowTo hb1 hb2
    clear hb1 hb2
    go_wp2
    go_returns
    exact ⟨rfl, hb⟩
  · rw [hk] at HC
    have HK := Lib.hid hk
    clear hk
    have HC2 := Lib.hid (HC.out.mono (fun e w' h => (⟨h.1, h.2⟩ : e = .returned .nilIface ∧ Below w.heap.size w w')))
    clear HC
    go_enter Tryd.func10, Tryd.ntmps10
    go_wp2_with fail
    refine Calls.mono HC2.out ?_
    rintro e w1 ⟨rfl, hb⟩
    go_wp2_with fail
    refine Calls.mono (none_nil _) ?_
    rintro e w2 ⟨rfl, hb2⟩
    replace hb := belowTo hb hb2
    clear hb2
    go_wp2_with fail
    refine Calls.mono (H0.out _ hb HK.out) ?_
    rintro e w3 ⟨rfl, hb3⟩
    replace hb := belowTo hb hb3
    clear hb3
    go_wp2
    go_returns
    exact ⟨rfl, hb⟩
set_option maxHeartbeats 4000000 in
theorem polygonCount_any (v : Value) (l : List V2) (w : World) (h : ReadsVecs w v l) (hg : EtOk w) :
    Calls Tryd.prog 14 #[v] w fun e w' => e = .returned (.tuple #[.int .i64 (gate (polyB l) (innerZ l + edgeZ l l.length)), .bool (polyB l)]) ∧ Below w.heap.size w w' := by
  have HC := Lib.hid (polyCheck_any v l w h)
  have H0 := Lib.hid (fun w' (hb : Below w.heap.size w w') (hp : polyB l = true) => inner_any v l w' (h.below hb) hp)
  have H1 := Lib.hid (fun w' (hb : Below w.heap.size w w') (hp : polyB l = true) => edge_any v l w' (h.below hb) hp)
  have HN := Lib.hid (fun hp => poly_nums (l := l) hp)
  have HIb : Hid (-3000000000 ≤ areaZ l - edgeZ l l.length + 2 ∧ areaZ l - edgeZ l l.length + 2 ≤ 3000000000 → -3000000000 ≤ innerZ l ∧ innerZ l ≤ 3000000000) := fun h => tdiv_bd h
  generalize areaZ l = z at *
  generalize edgeZ l l.length = g at *
  obtain ⟨a, c, rfl, _⟩ := h
  generalize innerZ l = y at *
  cases hk : polyB l
  · rw [hk] at HC
    clear hk H0 H1 HN HIb
    go_enter Tryd.func14, Tryd.ntmps14
    go_wp2_with fail
    refine Calls.mono HC.out ?_
    rintro e w1 ⟨⟨s, rfl⟩, hb1⟩
    go_wp2_with fail
    refine Calls.mono (none_hit s _ (hg.below hb1)) ?_
    rintro e w2 ⟨rfl, hb2⟩
    have hb := belowTo hb1 hb2
    clear hb1 hb2
    go_wp2
    go_returns
    exact ⟨rfl, hb⟩
  · rw [hk] at HC
    have HK := Lib.hid hk
    clear hk
    have HC2 := Lib.hid (HC.out.mono (fun e w' h => (⟨h.1, h.2⟩ : e = .returned .nilIface ∧ Below w.heap.size w w')))
    clear HC
    obtain ⟨⟨n1, n2⟩, n3, n4⟩ := HN.out HK.out
    obtain ⟨n5, n6⟩ := HIb.out (by omega)
    have q1 : IntKind.i64.wrap (y + g) = y + g := by rw [IntKind.wrap_i64]; omega
    clear HN HIb n1 n2 n3 n4 n5 n6
    go_enter Tryd.func14, Tryd.ntmps14
    go_wp2_with fail
    refine Calls.mono HC2.out ?_
    rintro e w1 ⟨rfl, hb⟩
    go_wp2_with fail
    refine Calls.mono (none_nil _) ?_
    rintro e w2 ⟨rfl, hb2⟩
    replace hb := belowTo hb hb2
    clear hb2
    go_wp2_with fail
    refine Calls.mono (H0.out _ hb HK.out) ?_
    rintro e w3 ⟨rfl, hb3⟩
    replace hb := belowTo hb hb3
    clear hb3
    go_wp2_with fail
    refine Calls.mono (H1.out _ hb HK.out) ?_
    rintro e w4 ⟨rfl, hb4⟩
    replace hb := belowTo hb hb4
    clear hb4
    go_wp2
    go_returns
    exact ⟨rfl, hb⟩
end Go.Proofs.YtpimhndholckcaaDoor

/- Polygons, the model's side: areas, edges, vectors. -/
namespace Go.Proofs.YtpimhndholckcaaDoor
open Go.RowKit

set_option maxHeartbeats 1000000 in
theorem l1DetBig_any (x1 y1 x2 y2 : Int) (w : World) (h1 : big 800000 x1 y1) (h2 : big 800000 x2 y2) :
    Calls Tryd.prog 51 #[.agg #[.int .i64 (x1), .int .i64 (y1)], .agg #[.int .i64 (x2), .int .i64 (y2)]] w fun e w' => e = .returned (.int .i64 (detZ x1 y1 x2 y2)) ∧ Below w.heap.size w w' := by
  obtain ⟨_, _⟩ := mul_big h1.1 h2.2
  obtain ⟨_, _⟩ := mul_big h1.2 h2.1
  clear h1 h2
  go_enter Tryd.func51, Tryd.ntmps51
  go_wp2
  go_returns
  exact ⟨rfl, by go_grown⟩
set_option maxRecDepth 100000 in
set_option maxHeartbeats 16000000 in
theorem l6gArea_any (v : Value) (l : List V2) (w : World) (h : ReadsVecs w v l) (hp : polyB l = true) :
    Calls Tryd.prog 28 #[v] w fun e w' => e = .returned (.int .i64 (areaZ l)) ∧ Below w.heap.size w w' := by
  have h30 := poly_len hp
  have h0 : 0 < l.length := by omega
  obtain ⟨bb, off, vc, rfl, _, _, hbv, hvs⟩ := h.open h0
  have HVS := Lib.hid hvs
  have HA := Lib.hid (fun k => poly_vec hp k)
  have HT := Lib.hid (fun i => area_terms (poly_allV hp) h0 i)
  have HBd := Lib.hid (fun k (hk : k ≤ 1000) => area_bnd (poly_allV hp) h0 hk)
  have HSu : Hid (∀ k, sumZ (fun i => detV (cyc l i) (cyc l (i + 1))) (k + 1) = sumZ (fun i => detV (cyc l i) (cyc l (i + 1))) k + detZ (cyc l k).1 (cyc l k).2 (cyc l (k + 1)).1 (cyc l (k + 1)).2) := fun _ => rfl
  have HT2 : Hid (∀ k, -2000000 ≤ detZ (cyc l k).1 (cyc l k).2 (cyc l (k + 1)).1 (cyc l (k + 1)).2 ∧ detZ (cyc l k).1 (cyc l k).2 (cyc l (k + 1)).1 (cyc l (k + 1)).2 ≤ 2000000) := fun k => HT.out k
  have H00 : Hid (sumZ (fun i => detV (cyc l i) (cyc l (i + 1))) 0 = 0) := rfl
  unfold areaZ
  generalize sumZ (fun i => detV (cyc l i) (cyc l (i + 1))) = S at *
  clear h hvs hp HT
  go_enter Tryd.func28, Tryd.ntmps28
  go_wp2
  go_loopw [3, 4] (fun s3 s4 wr => ∃ k : Nat, k ≤ l.length ∧ s3 = .int .i64 (S k) ∧ s4 = .int .i64 k ∧ Below w.heap.size w wr) (fun _ s4 _ => l.length - (intOf s4).toNat)
  case atStart => exact ⟨0, Nat.zero_le _, by rw [H00.out], rfl, Below.refl _ _⟩
  case round =>
    obtain ⟨k, hk, rfl, rfl, hB⟩ := hrel
    have i1 : (0 : Int) ≤ (k : Int) := by omega
    by_cases hlt : k < l.length
    · have i2 : (k : Int) < (l.length : Int) := by omega
      have hq : (k + 1) % l.length < l.length := Nat.mod_lt _ h0
      have j3 : (0 : Int) ≤ (((k + 1) % l.length : Nat) : Int) := by omega
      have j4 : (((k + 1) % l.length : Nat) : Int) < (l.length : Int) := by omega
      have j5 : ¬ (l.length : Int) = 0 := by omega
      have j6 : ((l.length : Int) == 0) = false := by simpa using j5
      have j7 : ¬ l.length = 0 := by omega
      have t2 := next_is k l.length
      have q0 : IntKind.i64.wrap ((k : Int) + 1) = (k : Int) + 1 := by rw [IntKind.wrap_i64]; omega
      obtain ⟨d0, d1⟩ := HVS.out wr hB k hlt
      obtain ⟨d2, d3⟩ := HVS.out wr hB _ hq
      rw [cyc_mod] at d2 d3
      have v0 := HA.out k
      have v1 := HA.out (k + 1)
      have b1 := HBd.out k (by omega)
      have b2 := HT2.out k
      have HSk := Lib.hid (HSu.out k)
      have HDk := Lib.hid (fun w' => l1Det_any _ _ _ _ w' v0 v1)
      generalize hz : detZ (cyc l k).1 (cyc l k).2 (cyc l (k + 1)).1 (cyc l (k + 1)).2 = z at HSk b2 HDk
      have q1 : IntKind.i64.wrap (S k + z) = S k + z := by rw [IntKind.wrap_i64]; omega
      generalize cyc l k = V at *
      generalize cyc l (k + 1) = U at *
      obtain ⟨x1, y1⟩ := V
      obtain ⟨x2, y2⟩ := U
      dsimp only at d0 d1 d2 d3 HDk
      generalize (k + 1) % l.length = q at *
      have hs := hB.size
      have tt0 := cell_lt d0
      have tt1 := cell_lt d2
      clear hz v0 v1 HA HBd HSu H00 HVS HT2 b1 b2
      go_wp2
      go_region_held3 (fun w' => w'.cell? ⟨bb, off + k * 2, none⟩ = some (.int .i64 (x1)) ∧ w'.cell? ⟨bb, off + k * 2 + 1, none⟩ = some (.int .i64 (y1)) ∧ w'.cell? ⟨bb, off + q * 2, none⟩ = some (.int .i64 (x2)) ∧ w'.cell? ⟨bb, off + q * 2 + 1, none⟩ = some (.int .i64 (y2)) ∧ Below (w.heap.size) wr w') ((go_split_ands; refine ⟨by (first | (with_reducible assumption) | (go_keep; done) | (go_cell; done) | (go_simp; done) | (simp [*]; done)), by (first | (with_reducible assumption) | (go_keep; done) | (go_cell; done) | (go_simp; done) | (simp [*]; done)), by (first | (with_reducible assumption) | (go_keep; done) | (go_cell; done) | (go_simp; done) | (simp [*]; done)), by (first | (with_reducible assumption) | (go_keep; done) | (go_cell; done) | (go_simp; done) | (simp [*]; done)), by first | (with_reducible assumption) | (go_grown; done)⟩)) (first | (go_at_call 51; go_call (HDk.out _) as e w1 ⟨rfl, hb0⟩; go_split_ands; have q0 : w1.cell? ⟨bb, off + k * 2, none⟩ = some (.int .i64 (x1)) := (hb0.cell (p := ⟨bb, off + k * 2, none⟩) (by first | (with_reducible assumption) | (go_size; done) | (simp; omega))).trans (by first | (with_reducible assumption) | (go_keep; done) | (go_cell; done) | (go_simp; done) | (simp [*]; done)); have q1 : w1.cell? ⟨bb, off + k * 2 + 1, none⟩ = some (.int .i64 (y1)) := (hb0.cell (p := ⟨bb, off + k * 2 + 1, none⟩) (by first | (with_reducible assumption) | (go_size; done) | (simp; omega))).trans (by first | (with_reducible assumption) | (go_keep; done) | (go_cell; done) | (go_simp; done) | (simp [*]; done)); have q2 : w1.cell? ⟨bb, off + q * 2, none⟩ = some (.int .i64 (x2)) := (hb0.cell (p := ⟨bb, off + q * 2, none⟩) (by first | (with_reducible assumption) | (go_size; done) | (simp; omega))).trans (by first | (with_reducible assumption) | (go_keep; done) | (go_cell; done) | (go_simp; done) | (simp [*]; done)); have q3 : w1.cell? ⟨bb, off + q * 2 + 1, none⟩ = some (.int .i64 (y2)) := (hb0.cell (p := ⟨bb, off + q * 2 + 1, none⟩) (by first | (with_reducible assumption) | (go_size; done) | (simp; omega))).trans (by first | (with_reducible assumption) | (go_keep; done) | (go_cell; done) | (go_simp; done) | (simp [*]; done)); have hs0 : bb < w1.heap.size := Nat.lt_of_lt_of_le (by first | (with_reducible assumption) | (go_size; done) | (simp; omega)) hb0.size; have hT : Below (w.heap.size) wr w1 := Below.trans (by first | (with_reducible assumption) | (go_grown; done)) (hb0.mono (by first | (with_reducible assumption) | (go_size; done) | (simp; omega) | omega)); have hTs := hT.size; (try have hT2 : Below wr.heap.size wr w1 := belowTo (by first | (with_reducible assumption) | (go_grown; done)) hb0); clear hb0))
      have hBk := hB.trans hT
      go_wp2
      go_roundw
      case rel => exact ⟨k + 1, by omega, by rw [HSk.out], by go_num, hBk⟩
      case measure => simp [intOf]; omega
    · obtain rfl : k = l.length := by omega
      have i2 : ¬ ((l.length : Nat) : Int) < (l.length : Int) := by omega
      go_wp2
      go_returns
      exact ⟨rfl, hB⟩
set_option maxRecDepth 100000 in
set_option maxHeartbeats 16000000 in
theorem l6gEdge_any (v : Value) (l : List V2) (w : World) (h : ReadsVecs w v l) (hp : polyB l = true) :
    Calls Tryd.prog 31 #[v] w fun e w' => e = .returned (.int .i64 (edgeZ l l.length)) ∧ Below w.heap.size w w' := by
  have h30 := poly_len hp
  have h0 : 0 < l.length := by omega
  obtain ⟨bb, off, vc, rfl, _, _, hbv, hvs⟩ := h.open h0
  have HVS := Lib.hid hvs
  have HMb := Lib.hid (fun i => poly_small hp i)
  have HWs := Lib.hid (fun i => szs (way_vec hp i))
  have HEb := Lib.hid (fun k => edge_bnd hp k)
  have HSu : Hid (∀ k, edgeZ l (k + 1) = edgeZ l k + gcdZ ((cyc l (k + 1)).1 - (cyc l k).1) ((cyc l (k + 1)).2 - (cyc l k).2)) := fun _ => rfl
  have HWz : Hid (∀ i, wayZ l i = ((cyc l (i + 1)).1 - (cyc l i).1, (cyc l (i + 1)).2 - (cyc l i).2)) := fun _ => rfl
  have HS0 : Hid (edgeZ l 0 = 0) := rfl
  generalize edgeZ l = Q at *
  clear h hvs hp
  go_enter Tryd.func31, Tryd.ntmps31
  go_wp2
  go_loopw [3, 4] (fun s3 s4 wr => ∃ k : Nat, k ≤ l.length ∧ s3 = .int .i64 (Q k) ∧ s4 = .int .i64 k ∧ Below w.heap.size w wr) (fun _ s4 _ => l.length - (intOf s4).toNat)
  case atStart => exact ⟨0, Nat.zero_le _, by rw [HS0.out], rfl, Below.refl _ _⟩
  case round =>
    obtain ⟨k, hk, rfl, rfl, hB⟩ := hrel
    have i1 : (0 : Int) ≤ (k : Int) := by omega
    by_cases hlt : k < l.length
    · have i2 : (k : Int) < (l.length : Int) := by omega
      have hq : (k + 1) % l.length < l.length := Nat.mod_lt _ h0
      have j3 : (0 : Int) ≤ (((k + 1) % l.length : Nat) : Int) := by omega
      have j4 : (((k + 1) % l.length : Nat) : Int) < (l.length : Int) := by omega
      have j5 : ¬ (l.length : Int) = 0 := by omega
      have j6 : ((l.length : Int) == 0) = false := by simpa using j5
      have j7 : ¬ l.length = 0 := by omega
      have t2 := next_is k l.length
      have q0 : IntKind.i64.wrap ((k : Int) + 1) = (k : Int) + 1 := by rw [IntKind.wrap_i64]; omega
      obtain ⟨d0, d1⟩ := HVS.out wr hB k hlt
      obtain ⟨d2, d3⟩ := HVS.out wr hB _ hq
      rw [cyc_mod] at d2 d3
      have b0 := HMb.out k
      have b1 := HMb.out (k + 1)
      have b2 := HWs.out k
      rw [HWz.out k] at b2
      have e1 := HEb.out k
      have e2 := HEb.out (k + 1)
      have e3 := HSu.out k
      have HSk := Lib.hid (HSu.out k)
      generalize cyc l k = V at *
      generalize cyc l (k + 1) = U at *
      obtain ⟨x1, y1⟩ := V
      obtain ⟨x2, y2⟩ := U
      dsimp only at d0 d1 d2 d3 HSk b0 b1 b2 e3
      generalize (k + 1) % l.length = q at *
      have HW1 := Lib.hid (fun w' => l6gWay_any x1 y1 x2 y2 w' (by unfold big; omega) (by unfold big; omega))
      have HG := Lib.hid (fun w' => l1Gcd_any (x2 - x1) (y2 - y1) w' b2.1 b2.2)
      generalize gcdZ (x2 - x1) (y2 - y1) = z at *
      have q1 : IntKind.i64.wrap (Q k + z) = Q k + z := by rw [IntKind.wrap_i64]; omega
      clear HMb HWs HEb HSu HWz HS0 HVS b0 b1 b2 e1 e2 e3
      go_wp2
      refine wp_region_any (by kernel_rfl) ?_
      try (change wpAny _ _ _ _ _ _ _ (World.drew _))
      refine wpAny_of_held (S := fun w' => Below (wr.heap.size) wr w') _ _ _ _ ?_
      have hSw : Below (wr.heap.size) wr (World.drew wr) := by go_grown
      generalize World.drew wr = wd at hSw ⊢
      refine wpAnyH_take (i := 0) (v := ?_) rfl (by kernel_rfl) (by kernel_rfl) (by kernel_rfl) (fun _ _ _ h => h) (Or.inl ⟨by rfl, ?_⟩) hSw ?_
      rotate_left
      focus (intro w0 hS0; clear hS0; go_simp; try with_reducible rfl)
      refine wpAnyH_take (i := 1) (v := ?_) rfl (by kernel_rfl) (by kernel_rfl) (by kernel_rfl) (fun _ _ _ h => h) (Or.inl ⟨by rfl, ?_⟩) hSw ?_
      rotate_left
      focus (intro w0 hS0; clear hS0; go_simp; try with_reducible rfl)
      refine wpAnyH_take (i := 2) (v := ?_) rfl (by kernel_rfl) (by kernel_rfl) (by kernel_rfl) (fun _ _ _ h => h) (Or.inl ⟨by rfl, ?_⟩) hSw ?_
      rotate_left
      focus (intro w0 hS0; clear hS0; go_simp; try with_reducible rfl)
      refine wpAnyH_take (i := 3) (v := ?_) rfl (by kernel_rfl) (by kernel_rfl) (by kernel_rfl) (fun _ _ _ h => h) (Or.inl ⟨by rfl, ?_⟩) hSw ?_
      rotate_left
      focus (intro w0 hS0; have c0 := (hS0.cell (p := ⟨bb, off + k * 2, none⟩) (cell_lt d0)).trans d0; have c1 := (hS0.cell (p := ⟨bb, off + k * 2 + 1, none⟩) (cell_lt d0)).trans d1; have c2 := (hS0.cell (p := ⟨bb, off + q * 2, none⟩) (cell_lt d2)).trans d2; have c3 := (hS0.cell (p := ⟨bb, off + q * 2 + 1, none⟩) (cell_lt d2)).trans d3; clear hS0; go_simp; try with_reducible rfl)
      refine wpAnyH_take (i := 4) (v := ?_) rfl (by kernel_rfl) (by kernel_rfl) (by kernel_rfl) (fun _ _ _ h => h) (Or.inl ⟨by rfl, ?_⟩) hSw ?_
      rotate_left
      focus (intro w0 hS0; clear hS0; go_simp; try with_reducible rfl)
      refine wpAnyH_take (i := 5) (v := ?_) rfl (by kernel_rfl) (by kernel_rfl) (by kernel_rfl) (fun _ _ _ h => h) (Or.inl ⟨by rfl, ?_⟩) hSw ?_
      rotate_left
      focus (intro w0 hS0; clear hS0; go_simp; try with_reducible rfl)
      refine wpAnyH_take (i := 6) (v := ?_) rfl (by kernel_rfl) (by kernel_rfl) (by kernel_rfl) (fun _ _ _ h => h) (Or.inl ⟨by rfl, ?_⟩) hSw ?_
      rotate_left
      focus (intro w0 hS0; clear hS0; go_simp; try with_reducible rfl)
      refine wpAnyH_take (i := 7) (v := ?_) rfl (by kernel_rfl) (by kernel_rfl) (by kernel_rfl) (fun _ _ _ h => h) (Or.inl ⟨by rfl, ?_⟩) hSw ?_
      rotate_left
      focus (intro w0 hS0; clear hS0; go_simp; try with_reducible rfl)
      refine wpAnyH_take (i := 8) (v := ?_) rfl (by kernel_rfl) (by kernel_rfl) (by kernel_rfl) (fun _ _ _ h => h) (Or.inl ⟨by rfl, ?_⟩) hSw ?_
      rotate_left
      focus (intro w0 hS0; clear hS0; go_simp; try with_reducible rfl)
      refine wpAnyH_take (i := 9) (v := ?_) rfl (by kernel_rfl) (by kernel_rfl) (by kernel_rfl) (fun _ _ _ h => h) (Or.inl ⟨by rfl, ?_⟩) hSw ?_
      rotate_left
      focus (intro w0 hS0; clear hS0; go_simp; try with_reducible rfl)
      refine wpAnyH_take (i := 10) (v := ?_) rfl (by kernel_rfl) (by kernel_rfl) (by kernel_rfl) (fun _ _ _ h => h) (Or.inl ⟨by rfl, ?_⟩) hSw ?_
      rotate_left
      focus (intro w0 hS0; clear hS0; go_simp; try with_reducible rfl)
      refine wpAnyH_take (i := 11) (v := ?_) rfl (by kernel_rfl) (by kernel_rfl) (by kernel_rfl) (fun _ _ _ h => h) (Or.inl ⟨by rfl, ?_⟩) hSw ?_
      rotate_left
      focus (intro w0 hS0; have c0 := (hS0.cell (p := ⟨bb, off + k * 2, none⟩) (cell_lt d0)).trans d0; have c1 := (hS0.cell (p := ⟨bb, off + k * 2 + 1, none⟩) (cell_lt d0)).trans d1; have c2 := (hS0.cell (p := ⟨bb, off + q * 2, none⟩) (cell_lt d2)).trans d2; have c3 := (hS0.cell (p := ⟨bb, off + q * 2 + 1, none⟩) (cell_lt d2)).trans d3; clear hS0; go_simp; try with_reducible rfl)
      refine wpAnyH_ready (rs := [12, 13]) (by kernel_rfl) (by simp) (AllReadyH.cons rfl (fun K hK => ?_) (AllReadyH.cons rfl (fun K hK => ?_) (AllReadyH.nil)))
      focus
        go_simp
        (refine Calls.mono (HW1.out _) ?_; rintro e w4 ⟨rfl, hbX⟩;  replace hSw := belowTo hSw hbX; refine hK.out _ _ hSw (fun _ => ?_); clear hK K hbX)
        refine wpAnyH_ready (rs := [13]) (by kernel_rfl) (by simp) (AllReadyH.cons rfl (fun K hK => ?_) (AllReadyH.nil))
        go_simp
        (have hSa : Below wr.heap.size wr (w4.alloc (.cells #[.int .i64 0, .int .i64 0] 49)) := hSw.alloc hSw.size _; have Bay0 : (w4.alloc (.cells #[.int .i64 0, .int .i64 0] 49)).cell? ⟨w4.heap.size, 0, none⟩ = some (.int .i64 0) := (by simp); have Bay1 : (w4.alloc (.cells #[.int .i64 0, .int .i64 0] 49)).cell? ⟨w4.heap.size, 1, none⟩ = some (.int .i64 0) := (by simp); have Bayf : ∀ o, (w4.alloc (.cells #[.int .i64 0, .int .i64 0] 49)).frozen? ⟨w4.heap.size, o, none⟩ = false := (fun o => by simp); have Baya := hSw.size; replace hSw := hSa; clear hSa; refine hK.out _ _ hSw (fun _ => ?_); clear hK K; generalize w4.alloc (.cells #[.int .i64 0, .int .i64 0] 49) = wa at *; generalize w4.heap.size = Ba at *)
        refine wpAnyH_ready (rs := [14]) (by kernel_rfl) (by simp) (AllReadyH.cons rfl (fun K hK => ?_) (AllReadyH.nil))
        go_simp
        (have z0 := Bayf 0; have z1 := Bayf 1; have g0 : ((wa.setCell ⟨Ba, 0, none⟩ (.int .i64 (x2 - x1))).setCell ⟨Ba, 1, none⟩ (.int .i64 (y2 - y1))).cell? ⟨Ba, 0, none⟩ = some (.int .i64 (x2 - x1)) := (by first | (go_cell; done) | (go_simp; done) | (simp; done)); have g1 : ((wa.setCell ⟨Ba, 0, none⟩ (.int .i64 (x2 - x1))).setCell ⟨Ba, 1, none⟩ (.int .i64 (y2 - y1))).cell? ⟨Ba, 1, none⟩ = some (.int .i64 (y2 - y1)) := (by first | (go_cell; done) | (go_simp; done) | (simp; done)); have hSE : Below wr.heap.size wr ((wa.setCell ⟨Ba, 0, none⟩ (.int .i64 (x2 - x1))).setCell ⟨Ba, 1, none⟩ (.int .i64 (y2 - y1))) := (hSw.setCell (p := ⟨Ba, 0, none⟩) Baya _).setCell (p := ⟨Ba, 1, none⟩) Baya _; refine hK.out _ _ hSE (fun _ => ?_); clear hK K hSw Bay0 Bay1 Bayf Baya z0 z1; generalize ((wa.setCell ⟨Ba, 0, none⟩ (.int .i64 (x2 - x1))).setCell ⟨Ba, 1, none⟩ (.int .i64 (y2 - y1))) = W5 at *)
        refine wpAnyH_done (by kernel_rfl) ?_ _
      rotate_left 1
      focus
        go_simp
        (have hSa : Below wr.heap.size wr (wd.alloc (.cells #[.int .i64 0, .int .i64 0] 49)) := hSw.alloc hSw.size _; have Bay0 : (wd.alloc (.cells #[.int .i64 0, .int .i64 0] 49)).cell? ⟨wd.heap.size, 0, none⟩ = some (.int .i64 0) := (by simp); have Bay1 : (wd.alloc (.cells #[.int .i64 0, .int .i64 0] 49)).cell? ⟨wd.heap.size, 1, none⟩ = some (.int .i64 0) := (by simp); have Bayf : ∀ o, (wd.alloc (.cells #[.int .i64 0, .int .i64 0] 49)).frozen? ⟨wd.heap.size, o, none⟩ = false := (fun o => by simp); have Baya := hSw.size; replace hSw := hSa; clear hSa; refine hK.out _ _ hSw (fun _ => ?_); clear hK K; generalize wd.alloc (.cells #[.int .i64 0, .int .i64 0] 49) = wa at *; generalize wd.heap.size = Ba at *)
        refine wpAnyH_ready (rs := [12]) (by kernel_rfl) (by simp) (AllReadyH.cons rfl (fun K hK => ?_) (AllReadyH.nil))
        go_simp
        (refine Calls.mono (HW1.out _) ?_; rintro e w4 ⟨rfl, hbX⟩; replace Bay1 := (hbX.cell (p := ⟨Ba, 1, none⟩) (cell_lt Bay0)).trans Bay1; replace Bayf := (fun o => (hbX.frozen (p := ⟨Ba, o, none⟩) (cell_lt Bay0)).trans (Bayf o)); replace Bay0 := (hbX.cell (p := ⟨Ba, 0, none⟩) (cell_lt Bay0)).trans Bay0; replace hSw := belowTo hSw hbX; refine hK.out _ _ hSw (fun _ => ?_); clear hK K hbX)
        refine wpAnyH_ready (rs := [14]) (by kernel_rfl) (by simp) (AllReadyH.cons rfl (fun K hK => ?_) (AllReadyH.nil))
        go_simp
        (have z0 := Bayf 0; have z1 := Bayf 1; have g0 : ((w4.setCell ⟨Ba, 0, none⟩ (.int .i64 (x2 - x1))).setCell ⟨Ba, 1, none⟩ (.int .i64 (y2 - y1))).cell? ⟨Ba, 0, none⟩ = some (.int .i64 (x2 - x1)) := (by first | (go_cell; done) | (go_simp; done) | (simp; done)); have g1 : ((w4.setCell ⟨Ba, 0, none⟩ (.int .i64 (x2 - x1))).setCell ⟨Ba, 1, none⟩ (.int .i64 (y2 - y1))).cell? ⟨Ba, 1, none⟩ = some (.int .i64 (y2 - y1)) := (by first | (go_cell; done) | (go_simp; done) | (simp; done)); have hSE : Below wr.heap.size wr ((w4.setCell ⟨Ba, 0, none⟩ (.int .i64 (x2 - x1))).setCell ⟨Ba, 1, none⟩ (.int .i64 (y2 - y1))) := (hSw.setCell (p := ⟨Ba, 0, none⟩) Baya _).setCell (p := ⟨Ba, 1, none⟩) Baya _; refine hK.out _ _ hSE (fun _ => ?_); clear hK K hSw Bay0 Bay1 Bayf Baya z0 z1; generalize ((w4.setCell ⟨Ba, 0, none⟩ (.int .i64 (x2 - x1))).setCell ⟨Ba, 1, none⟩ (.int .i64 (y2 - y1))) = W5 at *)
        refine wpAnyH_done (by kernel_rfl) ?_ _
      all_goals
        have hB5 := belowTo hB hSE
        clear hSE d0 d1 d2 d3
        go_wp2_with fail
        refine Calls.mono (HG.out _) ?_
        rintro e w6 ⟨rfl, hb6⟩
        have hBk := belowTo hB5 hb6
        clear hb6 hB5 g0 g1
        go_wp2
        go_roundw
        case rel => exact ⟨k + 1, by omega, by rw [HSk.out], by go_num, hBk⟩
        case measure => simp [intOf]; omega
    · obtain rfl : k = l.length := by omega
      have i2 : ¬ ((l.length : Nat) : Int) < (l.length : Int) := by omega
      go_wp2
      go_returns
      exact ⟨rfl, hB⟩
/-- the least determinant -/
def leastZ (l : List V2) (z : V2) : Nat → Int
  | 0 => sideZ (cyc l) 0 z
  | k + 1 => min (leastZ l z k) (sideZ (cyc l) (k + 1) z)
theorem least_iff {l : List V2} {z : V2} {s : Int} : ∀ k, s ≤ leastZ l z k ↔ ∀ i, i ≤ k → s ≤ sideZ (cyc l) i z := by
  intro k
  induction k with
  | zero =>
    constructor
    · intro h i hi
      obtain rfl : i = 0 := by omega
      exact h
    · intro h; exact h 0 (Nat.le_refl _)
  | succ k ih =>
    have e : leastZ l z (k + 1) = min (leastZ l z k) (sideZ (cyc l) (k + 1) z) := rfl
    constructor
    · intro h i hi
      by_cases c : i = k + 1
      · rw [c]; omega
      · exact ih.1 (by omega) i (by omega)
    · intro h
      have a := ih.2 (fun i hi => h i (by omega))
      have b := h (k + 1) (Nat.le_refl _)
      omega
theorem least_ins {l : List V2} {z : V2} {s : Int} (h0 : 0 < l.length) : decide (s ≤ leastZ l z (l.length - 1)) = insB (cyc l) l.length s z := by
  rw [Bool.eq_iff_iff, decide_eq_true_eq, least_iff, ins_iff]
  exact ⟨fun h k hk => h k (by omega), fun h k hk => h k (by omega)⟩
end Go.Proofs.YtpimhndholckcaaDoor

/- Polygons, the model's side: vectors are counted. -/
namespace Go.Proofs.YtpimhndholckcaaDoor
open Go.RowKit

def mnI (f : Nat → Int) : Nat → Int
  | 0 => 100
  | k + 1 => min (mnI f k) (f k)
def mxI (f : Nat → Int) : Nat → Int
  | 0 => -100
  | k + 1 => max (mxI f k) (f k)
theorem mn_bnd {f : Nat → Int} (h : ∀ i, -100 ≤ f i ∧ f i ≤ 100) : ∀ k, -100 ≤ mnI f k ∧ mnI f k ≤ 100 := by
  intro k
  induction k with
  | zero => exact ⟨by simp [mnI], by simp [mnI]⟩
  | succ k ih => have := h k; unfold mnI; omega
theorem mx_bnd {f : Nat → Int} (h : ∀ i, -100 ≤ f i ∧ f i ≤ 100) : ∀ k, -100 ≤ mxI f k ∧ mxI f k ≤ 100 := by
  intro k
  induction k with
  | zero => exact ⟨by simp [mxI], by simp [mxI]⟩
  | succ k ih => have := h k; unfold mxI; omega
def xsZ (l : List V2) (i : Nat) : Int := (cyc l i).1
def ysZ (l : List V2) (i : Nat) : Int := (cyc l i).2
/-- how many vectors of the box there are whose least determinant is at least s -/
def cntZ (l : List V2) (s : Int) : Int :=
  sumI (fun a => colN (cyc l) l.length s (mnI (xsZ l) l.length + a) (mnI (ysZ l) l.length) (mxI (ysZ l) l.length - mnI (ysZ l) l.length + 1).toNat) (mxI (xsZ l) l.length - mnI (xsZ l) l.length + 1).toNat
theorem col_bnd (p : Nat → P2) (n : Nat) (s x b : Int) (H : Nat) : 0 ≤ colN p n s x b H ∧ colN p n s x b H ≤ H := by
  unfold colN
  induction H with
  | zero => exact ⟨Int.le_refl _, Int.le_refl _⟩
  | succ H ih => rw [sumI_succ]; split <;> omega
theorem cnt_bnd (p : Nat → P2) (n : Nat) (s x b : Int) (H : Nat) (W : Nat) : 0 ≤ sumI (fun a => colN p n s (x + a) b H) W ∧ sumI (fun a => colN p n s (x + a) b H) W ≤ H * W := by
  induction W with
  | zero => exact ⟨Int.le_refl _, by simp [sumI]⟩
  | succ W ih =>
    have := col_bnd p n s (x + W) b H
    rw [sumI_succ]
    have e : (H : Int) * ((W + 1 : Nat) : Int) = H * W + H := by rw [Int.natCast_add, Int.mul_add]; simp
    omega
end Go.Proofs.YtpimhndholckcaaDoor

/- Polygons: inner vectors and all vectors: Pick's formula at a list of corners; both sides. -/
namespace Go.Proofs.YtpimhndholckcaaDoor
open Go.RowKit

theorem sumI_Z (f : Nat → Int) (n : Nat) : sumI f n = sumZ f n := by
  induction n with
  | zero => rfl
  | succ n ih => rw [sumI_succ, ih]; rfl
theorem mn_le (f : Nat → Int) : ∀ k i, i < k → mnI f k ≤ f i := by
  intro k
  induction k with
  | zero => omega
  | succ k ih =>
    intro i hi
    unfold mnI
    by_cases e : i = k
    · rw [e]; omega
    · have := ih i (by omega); omega
theorem mx_le (f : Nat → Int) : ∀ k i, i < k → f i ≤ mxI f k := by
  intro k
  induction k with
  | zero => omega
  | succ k ih =>
    intro i hi
    unfold mxI
    by_cases e : i = k
    · rw [e]; omega
    · have := ih i (by omega); omega
theorem mn_at {f : Nat → Int} (h : ∀ i, f i ≤ 100) : ∀ k, 0 < k → ∃ i, i < k ∧ f i = mnI f k := by
  intro k
  induction k with
  | zero => omega
  | succ k ih =>
    intro _
    unfold mnI
    by_cases h0 : k = 0
    · subst h0
      have := h 0
      exact ⟨0, by omega, by unfold mnI; omega⟩
    · obtain ⟨i, hi, e⟩ := ih (by omega)
      rcases Int.lt_or_le (f k) (mnI f k) with c | c
      · exact ⟨k, by omega, by omega⟩
      · exact ⟨i, by omega, by omega⟩
theorem mx_at {f : Nat → Int} (h : ∀ i, -100 ≤ f i) : ∀ k, 0 < k → ∃ i, i < k ∧ f i = mxI f k := by
  intro k
  induction k with
  | zero => omega
  | succ k ih =>
    intro _
    unfold mxI
    by_cases h0 : k = 0
    · subst h0
      have := h 0
      exact ⟨0, by omega, by unfold mxI; omega⟩
    · obtain ⟨i, hi, e⟩ := ih (by omega)
      rcases Int.lt_or_le (mxI f k) (f k) with c | c
      · exact ⟨k, by omega, by omega⟩
      · exact ⟨i, by omega, by omega⟩
theorem cnt_pick {l : List V2} (h : polyB l = true) : 2 * cntZ l 0 = areaZ l + edgeZ l l.length + 2 ∧ 2 * cntZ l 1 = areaZ l - edgeZ l l.length + 2 := by
  have h3 := poly_len h
  have hc := poly_conv h
  have hx : ∀ i, -100 ≤ xsZ l i ∧ xsZ l i ≤ 100 := fun i => (poly_small h i).1
  have hy : ∀ i, -100 ≤ ysZ l i ∧ ysZ l i ≤ 100 := fun i => (poly_small h i).2
  have xm : ∀ i, xsZ l (i % l.length) = xsZ l i := fun i => by unfold xsZ; rw [cyc_mod]
  have ym : ∀ i, ysZ l (i % l.length) = ysZ l i := fun i => by unfold ysZ; rw [cyc_mod]
  have x0 : ∀ i, mnI (xsZ l) l.length ≤ xsZ l i := fun i => by rw [← xm]; exact mn_le _ _ _ (Nat.mod_lt _ (by omega))
  have x1 : ∀ i, xsZ l i ≤ mxI (xsZ l) l.length := fun i => by rw [← xm]; exact mx_le _ _ _ (Nat.mod_lt _ (by omega))
  have y0 : ∀ i, mnI (ysZ l) l.length ≤ ysZ l i := fun i => by rw [← ym]; exact mn_le _ _ _ (Nat.mod_lt _ (by omega))
  have y1 : ∀ i, ysZ l i ≤ mxI (ysZ l) l.length := fun i => by rw [← ym]; exact mx_le _ _ _ (Nat.mod_lt _ (by omega))
  obtain ⟨i0, _, e0⟩ := mn_at (fun i => (hx i).2) l.length (by omega)
  obtain ⟨i1, _, e1⟩ := mx_at (fun i => (hx i).1) l.length (by omega)
  have w0 := x0 i1
  have v0 := y0 0
  have v1 := y1 0
  have hb : InBox (cyc l) (mnI (ysZ l) l.length) (mxI (ysZ l) l.length - mnI (ysZ l) l.length + 1).toNat := fun k => by
    have a := y0 k
    have b := y1 k
    unfold ysZ at *
    omega
  have hh := pick_all hc hb (x0 := mnI (xsZ l) l.length) (W := (mxI (xsZ l) l.length - mnI (xsZ l) l.length).toNat) (fun k => by
    have a := x0 k
    have b := x1 k
    unfold xsZ at *
    omega) ⟨i0, e0⟩ ⟨i1, by
    unfold xsZ at *
    omega⟩
  have eA : areaI (cyc l) l.length = areaZ l := sumI_Z _ _
  have eE : edgeI (cyc l) l.length = edgeZ l l.length := sumI_Z _ _
  have eW : (mxI (xsZ l) l.length - mnI (xsZ l) l.length + 1).toNat = (mxI (xsZ l) l.length - mnI (xsZ l) l.length).toNat + 1 := by omega
  rw [eA, eE] at hh
  unfold cntZ
  rw [eW]
  exact hh
theorem inner_cnt {l : List V2} (h : polyB l = true) : cntZ l 1 = innerZ l ∧ cntZ l 0 = innerZ l + edgeZ l l.length := by
  obtain ⟨a, b⟩ := cnt_pick h
  have e : innerZ l = cntZ l 1 := by
    unfold innerZ
    rw [show areaZ l - edgeZ l l.length + 2 = cntZ l 1 * 2 by omega]
    exact Int.mul_tdiv_cancel _ (by omega)
  omega
end Go.Proofs.YtpimhndholckcaaDoor
