/- Polygons: their vectors, areas, edges: the program. -/
import Derived.Test.YtomadlpdlmbmjaaDoorWc
import Derived.Test.YtomadlpdlmbmjaaDoorWp
import Derived.Test.YtomadlpdlmbmjaaDoorJn
import Derived.Test.YtomadlpdlmbmjaaDoorB2
namespace Go.Proofs.YtomadlpdlmbmjaaDoor
open Go.RowKit

theorem polyEnd_of {b : Bool} {e : Ending} (h : PolyEnd b e) : (b = true ∧ e = .returned .nilIface) ∨ (b = false ∧ IsNone e) := by
  cases b
  · exact .inr ⟨rfl, h⟩
  · exact .inl ⟨rfl, h⟩
theorem polyEnd_err {b : Bool} {e : Ending} (h : b = false) (k : IsNone e) : PolyEnd b e := by rw [h]; exact k
theorem polyEnd_ok {b : Bool} {e : Ending} (h : b = true) (k : e = .returned .nilIface) : PolyEnd b e := by rw [h]; exact k
set_option maxHeartbeats 4000000 in
theorem polygonIn_any (v : Value) (l : List V2) (w : World) (h : ReadsVecs w v l) (hg : EtOk w) :
    Calls Tryd.prog 21 #[v] w fun e w' => e = .returned (.bool (polyB l)) ∧ Below w.heap.size w w' := by
  have HC := Lib.hid (polyCheck_any v l w h)
  clear h
  generalize polyB l = K at *
  go_enter Tryd.func21, Tryd.ntmps21
  go_wp2_with fail
  refine Calls.mono HC.out ?_
  rintro e w1 ⟨he, hb1⟩
  rcases polyEnd_of he with ⟨rfl, rfl⟩ | ⟨rfl, s, rfl⟩
  · clear he
    go_wp2_with fail
    refine Calls.mono (none_nil _) ?_
    rintro e w2 ⟨rfl, hb2⟩
    have hb := belowTo hb1 hb2
    clear hb1 hb2
    go_wp2
    go_returns
    exact ⟨rfl, hb⟩
  · clear he
    go_wp2_with fail
    refine Calls.mono (none_hit s _ (hg.below hb1)) ?_
    rintro e w2 ⟨rfl, hb2⟩
    have hb := belowTo hb1 hb2
    clear hb1 hb2
    go_wp2
    go_returns
    exact ⟨rfl, hb⟩
set_option maxHeartbeats 4000000 in
theorem checkAll_pv (v : Value) (l : List V2) (x y : Int) (B : Nat) (w : World) (h : ReadsVecs w v l)
    (c0 : w.cell? ⟨B, 0, none⟩ = some (.iface 67 v)) (c1 : w.cell? ⟨B, 1, none⟩ = some (.iface 24 (.agg #[.int .i64 (x), .int .i64 (y)]))) (hB : B < w.heap.size) :
    Calls Tryd.prog 55 #[.slice (some ⟨B, 0, none⟩) 2 2] w fun e w' => PolyEnd (polyB l && vecB x y) e ∧ Below w.heap.size w w' := by
  have HC := Lib.hid (fun w' hb => polyCheck_any v l w' (h.below (w := w) hb))
  clear h
  generalize polyB l = K at *
  go_enter Tryd.func55, Tryd.ntmps55
  go_wp2
  refine wp_loop_rounds 3 ?_
  rw [rounds_succ]
  go_wp2_with fail
  refine Calls.mono (HC.out _ (by go_grown)) ?_
  rintro e w1 ⟨he, hb1⟩
  replace hb1 : Below w.heap.size w w1 := belowTo (by go_grown) hb1
  have c1' : w1.cell? ⟨B, 1, none⟩ = some (.iface 24 (.agg #[.int .i64 (x), .int .i64 (y)])) := (hb1.cell (p := ⟨B, 1, none⟩) hB).trans c1
  rcases polyEnd_of he with ⟨rfl, rfl⟩ | ⟨rfl, s, rfl⟩
  · clear he c0 c1 HC
    cases h2 : vecB x y
    · go_wp2_with fail
      rw [rounds_succ]
      go_wp2_with fail
      go_call (check_out x y _ h2) as e w2 ⟨⟨s, rfl⟩, hb2⟩
      clear c1'
      go_wp2
      go_returns
      exact ⟨polyEnd_err (by rw [h2]; rfl) ⟨_, rfl⟩, belowTo hb1 hb2⟩
    · go_wp2_with fail
      rw [rounds_succ]
      go_wp2_with fail
      go_call (check_in x y _ h2) as e w2 ⟨rfl, hb2⟩
      clear c1'
      go_wp2_with fail
      rw [rounds_succ]
      go_wp2
      go_returns
      exact ⟨polyEnd_ok (by rw [h2]; rfl) rfl, belowTo hb1 hb2⟩
  · clear he c0 c1 HC c1'
    go_wp2
    go_returns
    exact ⟨polyEnd_err rfl ⟨_, rfl⟩, hb1⟩
/-- is a vector one of the polygon's -/
def hasPB (l : List V2) (a : V2) : Bool := insB (cyc l) l.length 0 a
theorem hasP_not {l : List V2} {a : V2} {i : Nat} (hi : i < l.length) (h : sideZ (cyc l) i a < 0) : hasPB l a = false := by
  cases k : hasPB l a
  · rfl
  · have := ins_iff.1 k i hi
    omega
theorem hasP_yes {l : List V2} {a : V2} (h : ∀ i, i < l.length → 0 ≤ sideZ (cyc l) i a) : hasPB l a = true := ins_iff.2 h
set_option maxRecDepth 100000 in
set_option maxHeartbeats 16000000 in
theorem polyHas_any (v : Value) (l : List V2) (x y : Int) (w : World) (h : ReadsVecs w v l) (hp : polyB l = true) (hv : vecB x y = true) :
    Calls Tryd.prog 56 #[v, .agg #[.int .i64 (x), .int .i64 (y)]] w fun e w' => e = .returned (.bool (hasPB l (x, y))) ∧ Below w.heap.size w w' := by
  have h30 := poly_len hp
  have h0 : 0 < l.length := by omega
  have HWy := Lib.hid (fun w' (hb : Below w.heap.size w w') => ways_any v l w' (h.below hb) h0 (by omega) (fun i => by have := poly_small hp i; unfold big; omega))
  obtain ⟨bv, ov, vc, rfl, _, _, hbv, hvs⟩ := h.open h0
  have HVS := Lib.hid hvs
  have HWc := Lib.hid (fun i => cyc_ways h0 i)
  have HN := Lib.hid (fun i h1 h2 => hasP_not (l := l) (a := (x, y)) (i := i) h1 h2)
  have HY := Lib.hid (fun h1 => hasP_yes (l := l) (a := (x, y)) h1)
  have HMb := Lib.hid (fun i => poly_small hp i)
  have HWs := Lib.hid (fun i => way_small (allK_all (poly_in hp).2.1 h0) i)
  have HWl := Lib.hid (waysL_len l)
  have HSi : Hid (∀ i, sideZ (cyc l) i (x, y) = detZ (wayZ l i).1 (wayZ l i).2 (x - (cyc l i).1) (y - (cyc l i).2)) := fun _ => rfl
  have hxy := szs hv
  generalize hasPB l (x, y) = K at *
  clear h hvs hp hv
  go_enter Tryd.func56, Tryd.ntmps56
  go_wp2_with fail
  refine Calls.mono (HWy.out _ (by go_grown)) ?_
  rintro e W1 ⟨v1, rfl, hI, hb1⟩
  have HB1 := Lib.hid (show Below w.heap.size w W1 from belowTo (by go_grown) hb1)
  have a0 : W1.cell? ⟨w.heap.size, 0, none⟩ = some (.int .i64 x) := (hb1.cell (p := ⟨w.heap.size, 0, none⟩) (by simp)).trans (by simp)
  have a1 : W1.cell? ⟨w.heap.size, 1, none⟩ = some (.int .i64 y) := (hb1.cell (p := ⟨w.heap.size, 1, none⟩) (by simp)).trans (by simp)
  have HA0 := Lib.hid a0
  have HA1 := Lib.hid a1
  obtain ⟨bw, ow, wc, rfl, _, _, hbw, hws⟩ := (hI.reads (by rw [waysL_len]; omega)).open (by rw [waysL_len]; exact h0)
  have HWS := Lib.hid hws
  clear hb1 hI hws a0 a1 HWy
  have hsW := HB1.out.size
  have hwl := HWl.out
  generalize hn : (waysL l).length = n at *
  subst hwl
  clear hn
  go_wp2
  go_loopw [10] (fun s wr => ∃ k : Nat, k ≤ l.length ∧ s = .int .i64 k ∧ Hid (∀ j, j < k → 0 ≤ sideZ (cyc l) j (x, y)) ∧ Below W1.heap.size W1 wr) (fun s _ => l.length - (intOf s).toNat)
  case atStart => exact ⟨0, Nat.zero_le _, rfl, fun j hj => by omega, Below.refl _ _⟩
  case round =>
    obtain ⟨k, hk, rfl, HE, hB⟩ := hrel
    have i1 : (0 : Int) ≤ (k : Int) := by omega
    by_cases hlt : k < l.length
    · have i2 : (k : Int) < (l.length : Int) := by omega
      obtain ⟨c0, c1⟩ := HVS.out wr (HB1.out.trans (hB.mono hsW)) k hlt
      obtain ⟨d0, d1⟩ := HWS.out wr hB k hlt
      rw [HWc.out k] at d0 d1
      have a0 := (hB.cell (p := ⟨w.heap.size, 0, none⟩) (cell_lt HA0.out)).trans HA0.out
      have a1 := (hB.cell (p := ⟨w.heap.size, 1, none⟩) (cell_lt HA0.out)).trans HA1.out
      have HNk := Lib.hid (fun h => HN.out k hlt h)
      have HE2 : Hid (0 ≤ sideZ (cyc l) k (x, y) → ∀ j, j < k + 1 → 0 ≤ sideZ (cyc l) j (x, y)) := fun h j h2 => by
        by_cases e : j = k
        · subst e; exact h
        · exact HE.out j (by omega)
      have b0 := HMb.out k
      have b1 := HWs.out k
      have HSk := Lib.hid (HSi.out k)
      generalize hz : sideZ (cyc l) k (x, y) = z at HNk HE2 HSk
      clear hz
      generalize cyc l k = V at *
      generalize wayZ l k = U at *
      obtain ⟨p1, p2⟩ := V
      obtain ⟨u1, u2⟩ := U
      dsimp only at c0 c1 d0 d1 b0 b1 HSk
      have HM := Lib.hid (fun w' => minusBig_any x y p1 p2 w' (by unfold big; omega) (by unfold big; omega))
      have HD := Lib.hid (fun w' => detBig_any u1 u2 (x - p1) (y - p2) w' (by unfold big; omega) (by unfold big; omega))
      rw [← HSk.out] at HD
      have hs := hB.size
      clear HE HN HY HMb HWs HSi HWc HVS HWS HSk b0 b1
      go_wp2_with fail
      have hA2 : Below wr.heap.size wr (wr.alloc (.cells #[.int .i64 u1, .int .i64 u2] 24)) := by go_grown
      have e0 : (wr.alloc (.cells #[.int .i64 u1, .int .i64 u2] 24)).cell? ⟨wr.heap.size, 0, none⟩ = some (.int .i64 u1) := by simp
      have e1 : (wr.alloc (.cells #[.int .i64 u1, .int .i64 u2] 24)).cell? ⟨wr.heap.size, 1, none⟩ = some (.int .i64 u2) := by simp
      replace a1 := (hA2.cell (p := ⟨w.heap.size, 1, none⟩) (cell_lt a0)).trans a1
      replace a0 := (hA2.cell (p := ⟨w.heap.size, 0, none⟩) (cell_lt a0)).trans a0
      replace c1 := (hA2.cell (p := ⟨bv, ov + k * 2 + 1, none⟩) (cell_lt c0)).trans c1
      replace c0 := (hA2.cell (p := ⟨bv, ov + k * 2, none⟩) (cell_lt c0)).trans c0
      have hB2 := hB.trans (hA2.mono hs)
      obtain ⟨B3, hB3⟩ : ∃ B3, B3 = wr.heap.size := ⟨_, rfl⟩
      rw [← hB3] at e0 e1 ⊢
      generalize (wr.alloc (.cells #[.int .i64 u1, .int .i64 u2] 24)) = W3 at *
      clear hA2 hB3 d0 d1 hs
      have hs3 := hB2.size
      have t0 := cell_lt e0
      have t1 := cell_lt a0
      have t2 := cell_lt c0
      go_region_held3 (fun w' => w'.cell? ⟨B3, 0, none⟩ = some (.int .i64 (u1)) ∧ w'.cell? ⟨B3, 1, none⟩ = some (.int .i64 (u2)) ∧ w'.cell? ⟨w.heap.size, 0, none⟩ = some (.int .i64 (x)) ∧ w'.cell? ⟨w.heap.size, 1, none⟩ = some (.int .i64 (y)) ∧ w'.cell? ⟨bv, ov + k * 2, none⟩ = some (.int .i64 (p1)) ∧ w'.cell? ⟨bv, ov + k * 2 + 1, none⟩ = some (.int .i64 (p2)) ∧ Below (W1.heap.size) W3 w') ((go_split_ands; refine ⟨by (first | (with_reducible assumption) | (go_keep; done) | (go_cell; done) | (go_simp; done) | (simp [*]; done)), by (first | (with_reducible assumption) | (go_keep; done) | (go_cell; done) | (go_simp; done) | (simp [*]; done)), by (first | (with_reducible assumption) | (go_keep; done) | (go_cell; done) | (go_simp; done) | (simp [*]; done)), by (first | (with_reducible assumption) | (go_keep; done) | (go_cell; done) | (go_simp; done) | (simp [*]; done)), by (first | (with_reducible assumption) | (go_keep; done) | (go_cell; done) | (go_simp; done) | (simp [*]; done)), by (first | (with_reducible assumption) | (go_keep; done) | (go_cell; done) | (go_simp; done) | (simp [*]; done)), by first | (with_reducible assumption) | (go_grown; done)⟩)) (first | (go_at_call 77; go_call (HM.out _) as e w1 ⟨rfl, hb0⟩; go_split_ands; have q0 : w1.cell? ⟨B3, 0, none⟩ = some (.int .i64 (u1)) := (hb0.cell (p := ⟨B3, 0, none⟩) (by first | (with_reducible assumption) | (go_size; done) | (simp; omega))).trans (by first | (with_reducible assumption) | (go_keep; done) | (go_cell; done) | (go_simp; done) | (simp [*]; done)); have q1 : w1.cell? ⟨B3, 1, none⟩ = some (.int .i64 (u2)) := (hb0.cell (p := ⟨B3, 1, none⟩) (by first | (with_reducible assumption) | (go_size; done) | (simp; omega))).trans (by first | (with_reducible assumption) | (go_keep; done) | (go_cell; done) | (go_simp; done) | (simp [*]; done)); have q2 : w1.cell? ⟨w.heap.size, 0, none⟩ = some (.int .i64 (x)) := (hb0.cell (p := ⟨w.heap.size, 0, none⟩) (by first | (with_reducible assumption) | (go_size; done) | (simp; omega))).trans (by first | (with_reducible assumption) | (go_keep; done) | (go_cell; done) | (go_simp; done) | (simp [*]; done)); have q3 : w1.cell? ⟨w.heap.size, 1, none⟩ = some (.int .i64 (y)) := (hb0.cell (p := ⟨w.heap.size, 1, none⟩) (by first | (with_reducible assumption) | (go_size; done) | (simp; omega))).trans (by first | (with_reducible assumption) | (go_keep; done) | (go_cell; done) | (go_simp; done) | (simp [*]; done)); have q4 : w1.cell? ⟨bv, ov + k * 2, none⟩ = some (.int .i64 (p1)) := (hb0.cell (p := ⟨bv, ov + k * 2, none⟩) (by first | (with_reducible assumption) | (go_size; done) | (simp; omega))).trans (by first | (with_reducible assumption) | (go_keep; done) | (go_cell; done) | (go_simp; done) | (simp [*]; done)); have q5 : w1.cell? ⟨bv, ov + k * 2 + 1, none⟩ = some (.int .i64 (p2)) := (hb0.cell (p := ⟨bv, ov + k * 2 + 1, none⟩) (by first | (with_reducible assumption) | (go_size; done) | (simp; omega))).trans (by first | (with_reducible assumption) | (go_keep; done) | (go_cell; done) | (go_simp; done) | (simp [*]; done)); have hs0 : B3 < w1.heap.size := Nat.lt_of_lt_of_le (by first | (with_reducible assumption) | (go_size; done) | (simp; omega)) hb0.size; have hs1 : w.heap.size < w1.heap.size := Nat.lt_of_lt_of_le (by first | (with_reducible assumption) | (go_size; done) | (simp; omega)) hb0.size; have hs2 : bv < w1.heap.size := Nat.lt_of_lt_of_le (by first | (with_reducible assumption) | (go_size; done) | (simp; omega)) hb0.size; have hT : Below (W1.heap.size) W3 w1 := Below.trans (by first | (with_reducible assumption) | (go_grown; done)) (hb0.mono (by first | (with_reducible assumption) | (go_size; done) | (simp; omega) | omega)); have hTs := hT.size; (try have hT2 : Below W3.heap.size W3 w1 := belowTo (by first | (with_reducible assumption) | (go_grown; done)) hb0); clear hb0) | (go_at_call 76; go_call (HD.out _) as e w1 ⟨rfl, hb0⟩; go_split_ands; have q0 : w1.cell? ⟨B3, 0, none⟩ = some (.int .i64 (u1)) := (hb0.cell (p := ⟨B3, 0, none⟩) (by first | (with_reducible assumption) | (go_size; done) | (simp; omega))).trans (by first | (with_reducible assumption) | (go_keep; done) | (go_cell; done) | (go_simp; done) | (simp [*]; done)); have q1 : w1.cell? ⟨B3, 1, none⟩ = some (.int .i64 (u2)) := (hb0.cell (p := ⟨B3, 1, none⟩) (by first | (with_reducible assumption) | (go_size; done) | (simp; omega))).trans (by first | (with_reducible assumption) | (go_keep; done) | (go_cell; done) | (go_simp; done) | (simp [*]; done)); have q2 : w1.cell? ⟨w.heap.size, 0, none⟩ = some (.int .i64 (x)) := (hb0.cell (p := ⟨w.heap.size, 0, none⟩) (by first | (with_reducible assumption) | (go_size; done) | (simp; omega))).trans (by first | (with_reducible assumption) | (go_keep; done) | (go_cell; done) | (go_simp; done) | (simp [*]; done)); have q3 : w1.cell? ⟨w.heap.size, 1, none⟩ = some (.int .i64 (y)) := (hb0.cell (p := ⟨w.heap.size, 1, none⟩) (by first | (with_reducible assumption) | (go_size; done) | (simp; omega))).trans (by first | (with_reducible assumption) | (go_keep; done) | (go_cell; done) | (go_simp; done) | (simp [*]; done)); have q4 : w1.cell? ⟨bv, ov + k * 2, none⟩ = some (.int .i64 (p1)) := (hb0.cell (p := ⟨bv, ov + k * 2, none⟩) (by first | (with_reducible assumption) | (go_size; done) | (simp; omega))).trans (by first | (with_reducible assumption) | (go_keep; done) | (go_cell; done) | (go_simp; done) | (simp [*]; done)); have q5 : w1.cell? ⟨bv, ov + k * 2 + 1, none⟩ = some (.int .i64 (p2)) := (hb0.cell (p := ⟨bv, ov + k * 2 + 1, none⟩) (by first | (with_reducible assumption) | (go_size; done) | (simp; omega))).trans (by first | (with_reducible assumption) | (go_keep; done) | (go_cell; done) | (go_simp; done) | (simp [*]; done)); have hs0 : B3 < w1.heap.size := Nat.lt_of_lt_of_le (by first | (with_reducible assumption) | (go_size; done) | (simp; omega)) hb0.size; have hs1 : w.heap.size < w1.heap.size := Nat.lt_of_lt_of_le (by first | (with_reducible assumption) | (go_size; done) | (simp; omega)) hb0.size; have hs2 : bv < w1.heap.size := Nat.lt_of_lt_of_le (by first | (with_reducible assumption) | (go_size; done) | (simp; omega)) hb0.size; have hT : Below (W1.heap.size) W3 w1 := Below.trans (by first | (with_reducible assumption) | (go_grown; done)) (hb0.mono (by first | (with_reducible assumption) | (go_size; done) | (simp; omega) | omega)); have hTs := hT.size; (try have hT2 : Below W3.heap.size W3 w1 := belowTo (by first | (with_reducible assumption) | (go_grown; done)) hb0); clear hb0))
      have hBk := hB2.trans hT
      rcases Int.lt_or_le z 0 with hq | hq
      · have HF := Lib.hid (HNk.out (by first | exact hq | simpa using hq))
        have hq' : z < 0 := hq
        go_wp2
        go_returns
        exact ⟨by rw [HF.out]; rfl, HB1.out.trans (hBk.mono hsW)⟩
      · have HF := Lib.hid (HE2.out (by first | exact hq | simpa using hq))
        have hq' : ¬ z < 0 := by omega
        clear hq
        go_wp2
        go_roundw
        case rel => exact ⟨k + 1, by omega, by go_num, HF.out, hBk⟩
        case measure => simp [intOf]; omega
    · obtain rfl : k = l.length := by omega
      have i2 : ¬ ((l.length : Nat) : Int) < (l.length : Int) := by omega
      have HF := Lib.hid (HY.out HE.out)
      go_wp2
      go_returns
      exact ⟨by rw [HF.out]; rfl, HB1.out.trans (hB.mono hsW)⟩
end Go.Proofs.YtomadlpdlmbmjaaDoor
