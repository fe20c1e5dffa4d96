import Derived.Test.YtdkdpfpfefpphaaDoorTc
namespace Go.Proofs.YtdkdpfpfefpphaaDoor
open Go.RowKit

/-! the plain methods of vectors -/
set_option maxHeartbeats 1000000 in
theorem plus_any (x1 y1 x2 y2 : Int) (w : World) (h1 : vecB x1 y1 = true) (h2 : vecB x2 y2 = true) :
    Calls Tryd.prog 55 #[.agg #[.int .i64 (x1), .int .i64 (y1)], .agg #[.int .i64 (x2), .int .i64 (y2)]] w fun e w' => e = .returned (.agg #[.int .i64 (x1 + x2), .int .i64 (y1 + y2)]) ∧ Below w.heap.size w w' := by
  obtain ⟨⟨_, _⟩, _, _⟩ := szs h1
  obtain ⟨⟨_, _⟩, _, _⟩ := szs h2
  clear h1 h2
  go_enter Tryd.func55, Tryd.ntmps55
  go_wp2
  go_returns
  exact ⟨rfl, by go_grown⟩
set_option maxHeartbeats 1000000 in
theorem times_any (x y n : Int) (w : World) (h1 : vecB x y = true) (h2 : szB n = true) :
    Calls Tryd.prog 57 #[.agg #[.int .i64 (x), .int .i64 (y)], .int .i64 n] w fun e w' => e = .returned (.agg #[.int .i64 (x * n), .int .i64 (y * n)]) ∧ Below w.heap.size w w' := by
  obtain ⟨hx, hy⟩ := szs h1
  have hn := szB_true h2
  obtain ⟨_, _⟩ := mul_bd hx hn
  obtain ⟨_, _⟩ := mul_bd hy hn
  clear h1 h2 hx hy hn
  go_enter Tryd.func57, Tryd.ntmps57
  go_wp2
  go_returns
  exact ⟨rfl, by go_grown⟩
set_option maxHeartbeats 1000000 in
theorem det_any (x1 y1 x2 y2 : Int) (w : World) (h1 : vecB x1 y1 = true) (h2 : vecB x2 y2 = true) :
    Calls Tryd.prog 59 #[.agg #[.int .i64 (x1), .int .i64 (y1)], .agg #[.int .i64 (x2), .int .i64 (y2)]] w fun e w' => e = .returned (.int .i64 (detZ x1 y1 x2 y2)) ∧ Below w.heap.size w w' := by
  obtain ⟨a1, b1⟩ := szs h1
  obtain ⟨a2, b2⟩ := szs h2
  obtain ⟨_, _⟩ := mul_bd a1 b2
  obtain ⟨_, _⟩ := mul_bd b1 a2
  clear h1 h2 a1 b1 a2 b2
  go_enter Tryd.func59, Tryd.ntmps59
  go_wp2
  go_returns
  exact ⟨rfl, by go_grown⟩
set_option maxHeartbeats 1000000 in
theorem product_any (x1 y1 x2 y2 : Int) (w : World) (h1 : vecB x1 y1 = true) (h2 : vecB x2 y2 = true) :
    Calls Tryd.prog 61 #[.agg #[.int .i64 (x1), .int .i64 (y1)], .agg #[.int .i64 (x2), .int .i64 (y2)]] w fun e w' => e = .returned (.int .i64 (dotZ x1 y1 x2 y2)) ∧ Below w.heap.size w w' := by
  obtain ⟨a1, b1⟩ := szs h1
  obtain ⟨a2, b2⟩ := szs h2
  obtain ⟨_, _⟩ := mul_bd a1 a2
  obtain ⟨_, _⟩ := mul_bd b1 b2
  clear h1 h2 a1 b1 a2 b2
  go_enter Tryd.func61, Tryd.ntmps61
  go_wp2
  go_returns
  exact ⟨rfl, by go_grown⟩
set_option maxHeartbeats 1000000 in
theorem turn_any (x y : Int) (w : World) (h1 : vecB x y = true) :
    Calls Tryd.prog 65 #[.agg #[.int .i64 (x), .int .i64 (y)]] w fun e w' => e = .returned (.agg #[.int .i64 (-y), .int .i64 (x)]) ∧ Below w.heap.size w w' := by
  obtain ⟨⟨_, _⟩, _, _⟩ := szs h1
  clear h1
  go_enter Tryd.func65, Tryd.ntmps65
  go_wp2
  go_returns
  exact ⟨rfl, by go_grown⟩

/-! VecAdd, both sides -/
set_option maxHeartbeats 2000000 in
theorem vecAdd_any (x1 y1 x2 y2 : Int) (w : World) (hg : EtOk w) :
    Calls Tryd.prog 25 #[.agg #[.int .i64 (x1), .int .i64 (y1)], .agg #[.int .i64 (x2), .int .i64 (y2)]] w fun e w' => e = .returned (.tuple #[.agg #[.int .i64 (gate (addOk x1 y1 x2 y2) (x1 + x2)), .int .i64 (gate (addOk x1 y1 x2 y2) (y1 + y2))], .bool (addOk x1 y1 x2 y2)]) ∧ Below w.heap.size w w' := by
  unfold addOk
  cases h : (vecB x1 y1 && vecB x2 y2)
  · go_enter Tryd.func25, Tryd.ntmps25
    go_wp2_with fail
    go_call (checkAll_vv_out x1 y1 x2 y2 _ _ h) as e w1 ⟨rfl, hb1⟩
    obtain ⟨hc1, hf1⟩ := bcell hb1; have hz1 := bsize hb1
    go_wp2_with fail
    refine (none_hit _ _ (hg.below (belowTo (by go_grown) hb1))).mono ?_
    rintro e w2 ⟨rfl, hb2⟩
    replace hb1 := belowTo hb1 hb2; clear hb2 hc1 hf1 hz1; obtain ⟨hc1, hf1⟩ := bcell hb1; have hz1 := bsize hb1
    go_wp2
    have hB := belowTo (a := w) (by go_grown) hb1; have hS := hB.size; (refine bodyPost_ret (by simp [results, Tryd.results25, go_sem, bcs hb1]; try rfl) rfl ?_); clear hb1
    exact ⟨rfl, by go_grown⟩
  · have h12 : vecB x1 y1 = true ∧ vecB x2 y2 = true := by simpa using h
    obtain ⟨h1, h2⟩ := h12
    clear h
    go_enter Tryd.func25, Tryd.ntmps25
    go_wp2_with fail
    go_call (checkAll_vv_in x1 y1 x2 y2 _ _ h1 h2) as e w1 ⟨rfl, hb1⟩
    obtain ⟨hc1, hf1⟩ := bcell hb1; have hz1 := bsize hb1
    go_wp2_with fail
    refine (none_nil _).mono ?_
    rintro e w2 ⟨rfl, hb2⟩
    replace hb1 := belowTo hb1 hb2; clear hb2 hc1 hf1 hz1; obtain ⟨hc1, hf1⟩ := bcell hb1; have hz1 := bsize hb1
    go_wp2_with fail
    refine (plus_any x1 y1 x2 y2 _ h1 h2).mono ?_
    rintro e w3 ⟨rfl, hb3⟩
    replace hb1 := belowTo hb1 hb3; clear hb3 hc1 hf1 hz1; obtain ⟨hc1, hf1⟩ := bcell hb1; have hz1 := bsize hb1
    go_wp2_with fail
    refine (madeVec_any (x1 + x2) (y1 + y2) _ (hg.below (belowTo (by go_grown) hb1))).mono ?_
    rintro e w4 ⟨rfl, hb4⟩
    replace hb1 := belowTo hb1 hb4; clear hb4 hc1 hf1 hz1; obtain ⟨hc1, hf1⟩ := bcell hb1; have hz1 := bsize hb1
    go_wp2
    have hB := belowTo (a := w) (by go_grown) hb1; have hS := hB.size; (refine bodyPost_ret (by simp [results, Tryd.results25, go_sem, bcs hb1]; try rfl) rfl ?_); clear hb1
    exact ⟨rfl, by go_grown⟩
set_option maxHeartbeats 2000000 in
theorem specVecAdd_any (x1 y1 x2 y2 : Int) (w : World) :
    Calls Tryd.prog 24 #[.agg #[.int .i64 (x1), .int .i64 (y1)], .agg #[.int .i64 (x2), .int .i64 (y2)]] w fun e w' => e = .returned (.tuple #[.agg #[.int .i64 (gate (addOk x1 y1 x2 y2) (x1 + x2)), .int .i64 (gate (addOk x1 y1 x2 y2) (y1 + y2))], .bool (addOk x1 y1 x2 y2)]) ∧ Below w.heap.size w w' := by
  unfold addOk
  cases h1 : vecB x1 y1
  · go_enter Tryd.func24, Tryd.ntmps24
    go_wp2_with fail
    refine (specVecIn_any x1 y1 _).mono ?_
    rintro e w1 ⟨rfl, hb1⟩
    obtain ⟨hc1, hf1⟩ := bcell hb1; have hz1 := bsize hb1
    go_wp2
    have hB := belowTo (a := w) (by go_grown) hb1; have hS := hB.size; (refine bodyPost_ret (by simp [results, Tryd.results24, go_sem, bcs hb1]; try rfl) rfl ?_); clear hb1
    exact ⟨rfl, by go_grown⟩
  · cases h2 : vecB x2 y2
    · go_enter Tryd.func24, Tryd.ntmps24
      go_wp2_with fail
      refine (specVecIn_any x1 y1 _).mono ?_
      rintro e w1 ⟨rfl, hb1⟩
      obtain ⟨hc1, hf1⟩ := bcell hb1; have hz1 := bsize hb1
      go_wp2_with fail
      refine (specVecIn_any x2 y2 _).mono ?_
      rintro e w2 ⟨rfl, hb2⟩
      replace hb1 := belowTo hb1 hb2; clear hb2 hc1 hf1 hz1; obtain ⟨hc1, hf1⟩ := bcell hb1; have hz1 := bsize hb1
      go_wp2
      have hB := belowTo (a := w) (by go_grown) hb1; have hS := hB.size; (refine bodyPost_ret (by simp [results, Tryd.results24, go_sem, bcs hb1]; try rfl) rfl ?_); clear hb1
      exact ⟨rfl, by go_grown⟩
    · obtain ⟨⟨_, _⟩, _, _⟩ := szs h1
      obtain ⟨⟨_, _⟩, _, _⟩ := szs h2
      go_enter Tryd.func24, Tryd.ntmps24
      go_wp2_with fail
      refine (specVecIn_any x1 y1 _).mono ?_
      rintro e w1 ⟨rfl, hb1⟩
      obtain ⟨hc1, hf1⟩ := bcell hb1; have hz1 := bsize hb1
      go_wp2_with fail
      refine (specVecIn_any x2 y2 _).mono ?_
      rintro e w2 ⟨rfl, hb2⟩
      replace hb1 := belowTo hb1 hb2; clear hb2 hc1 hf1 hz1; obtain ⟨hc1, hf1⟩ := bcell hb1; have hz1 := bsize hb1
      go_wp2_with fail
      refine (l1Done_any (x1 + x2) (y1 + y2) _).mono ?_
      rintro e w3 ⟨rfl, hb3⟩
      replace hb1 := belowTo hb1 hb3; clear hb3 hc1 hf1 hz1; obtain ⟨hc1, hf1⟩ := bcell hb1; have hz1 := bsize hb1
      go_wp2
      have hB := belowTo (a := w) (by go_grown) hb1; have hS := hB.size; (refine bodyPost_ret (by simp [results, Tryd.results24, go_sem, bcs hb1]; try rfl) rfl ?_); clear hb1
      exact ⟨rfl, by go_grown⟩
end Go.Proofs.YtdkdpfpfefpphaaDoor
