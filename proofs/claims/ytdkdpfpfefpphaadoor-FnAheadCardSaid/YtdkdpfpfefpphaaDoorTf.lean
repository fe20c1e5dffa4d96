import Derived.Test.YtdkdpfpfefpphaaDoorTd
namespace Go.Proofs.YtdkdpfpfefpphaaDoor
open Go.RowKit

/-! VecTimes -/
set_option maxHeartbeats 2000000 in
theorem vecTimes_any (x y n : Int) (w : World) (hg : EtOk w) :
    Calls Tryd.prog 28 #[.agg #[.int .i64 (x), .int .i64 (y)], .int .i64 n] w fun e w' => e = .returned (.tuple #[.agg #[.int .i64 (gate (timesOk x y n) (x * n)), .int .i64 (gate (timesOk x y n) (y * n))], .bool (timesOk x y n)]) ∧ Below w.heap.size w w' := by
  unfold timesOk
  cases h1 : vecB x y
  · go_enter Tryd.func28, Tryd.ntmps28
    (go_wp2_with fail; go_call (check_out x y _ h1) as e w1 ⟨rfl, hb1⟩); obtain ⟨hc1, hf1⟩ := bcell hb1; have hz1 := bsize hb1
    (go_wp2_with fail; go_call (none_hit _ _ (hg.below (belowTo (a := w) (by go_grown) hb1))) as e w2 ⟨rfl, hb2⟩); replace hb1 := belowTo hb1 hb2; clear hb2 hc1 hf1 hz1; obtain ⟨hc1, hf1⟩ := bcell hb1; have hz1 := bsize hb1
    go_wp2
    have hB := belowTo (a := w) (by go_grown) hb1; have hS := hB.size; (refine bodyPost_ret (by simp [results, Tryd.results28, go_sem, bcs hb1]; try rfl) rfl ?_); clear hb1
    exact ⟨rfl, by go_grown⟩
  · cases h2 : szB n
    · go_enter Tryd.func28, Tryd.ntmps28
      (go_wp2_with fail; go_call (check_in x y _ h1) as e w1 ⟨rfl, hb1⟩); obtain ⟨hc1, hf1⟩ := bcell hb1; have hz1 := bsize hb1
      (go_wp2_with fail; go_call (none_nil _) as e w2 ⟨rfl, hb2⟩); replace hb1 := belowTo hb1 hb2; clear hb2 hc1 hf1 hz1; obtain ⟨hc1, hf1⟩ := bcell hb1; have hz1 := bsize hb1
      go_wp2_with (go_at_call 56; refine (inSize_any _ _).mono ?_; rintro e w' ⟨rfl, rfl⟩)
      have hB := belowTo (a := w) (by go_grown) hb1; have hS := hB.size; (refine bodyPost_ret (by simp [results, Tryd.results28, go_sem, bcs hb1]; try rfl) rfl ?_); clear hb1
      exact ⟨rfl, by go_grown⟩
    · go_enter Tryd.func28, Tryd.ntmps28
      (go_wp2_with fail; go_call (check_in x y _ h1) as e w1 ⟨rfl, hb1⟩); obtain ⟨hc1, hf1⟩ := bcell hb1; have hz1 := bsize hb1
      (go_wp2_with fail; go_call (none_nil _) as e w2 ⟨rfl, hb2⟩); replace hb1 := belowTo hb1 hb2; clear hb2 hc1 hf1 hz1; obtain ⟨hc1, hf1⟩ := bcell hb1; have hz1 := bsize hb1
      go_wp2_with fail
      refine (inSize_any _ _).mono ?_
      rintro e w' ⟨rfl, rfl⟩
      (go_wp2_with fail; go_call (times_any x y n _ h1 h2) as e w2 ⟨rfl, hb2⟩); replace hb1 := belowTo hb1 hb2; clear hb2 hc1 hf1 hz1; obtain ⟨hc1, hf1⟩ := bcell hb1; have hz1 := bsize hb1
      (go_wp2_with fail; go_call (madeVec_any (x * n) (y * n) _ (hg.below (belowTo (a := w) (by go_grown) hb1))) as e w2 ⟨rfl, hb2⟩); replace hb1 := belowTo hb1 hb2; clear hb2 hc1 hf1 hz1; obtain ⟨hc1, hf1⟩ := bcell hb1; have hz1 := bsize hb1
      go_wp2
      have hB := belowTo (a := w) (by go_grown) hb1; have hS := hB.size; (refine bodyPost_ret (by simp [results, Tryd.results28, go_sem, bcs hb1]; try rfl) rfl ?_); clear hb1
      exact ⟨rfl, by go_grown⟩
set_option maxHeartbeats 2000000 in
theorem specVecTimes_any (x y n : Int) (w : World) :
    Calls Tryd.prog 27 #[.agg #[.int .i64 (x), .int .i64 (y)], .int .i64 n] w fun e w' => e = .returned (.tuple #[.agg #[.int .i64 (gate (timesOk x y n) (x * n)), .int .i64 (gate (timesOk x y n) (y * n))], .bool (timesOk x y n)]) ∧ Below w.heap.size w w' := by
  unfold timesOk
  rw [Int.mul_comm x n, Int.mul_comm y n]
  cases h1 : vecB x y
  · go_enter Tryd.func27, Tryd.ntmps27
    (go_wp2_with fail; go_call (specVecIn_any x y _) as e w1 ⟨rfl, hb1⟩); obtain ⟨hc1, hf1⟩ := bcell hb1; have hz1 := bsize hb1
    go_wp2
    have hB := belowTo (a := w) (by go_grown) hb1; have hS := hB.size; (refine bodyPost_ret (by simp [results, Tryd.results27, go_sem, bcs hb1]; try rfl) rfl ?_); clear hb1
    exact ⟨rfl, by go_grown⟩
  · cases h2 : szB n
    · go_enter Tryd.func27, Tryd.ntmps27
      (go_wp2_with fail; go_call (specVecIn_any x y _) as e w1 ⟨rfl, hb1⟩); obtain ⟨hc1, hf1⟩ := bcell hb1; have hz1 := bsize hb1
      go_wp2_with (go_at_call 51; refine (l1Size_any _ _).mono ?_; rintro e w' ⟨rfl, rfl⟩)
      have hB := belowTo (a := w) (by go_grown) hb1; have hS := hB.size; (refine bodyPost_ret (by simp [results, Tryd.results27, go_sem, bcs hb1]; try rfl) rfl ?_); clear hb1
      exact ⟨rfl, by go_grown⟩
    · obtain ⟨hx, hy⟩ := szs h1
      have hn := szB_true h2
      obtain ⟨_, _⟩ := mul_bd hn hx
      obtain ⟨_, _⟩ := mul_bd hn hy
      clear hx hy hn
      go_enter Tryd.func27, Tryd.ntmps27
      (go_wp2_with fail; go_call (specVecIn_any x y _) as e w1 ⟨rfl, hb1⟩); obtain ⟨hc1, hf1⟩ := bcell hb1; have hz1 := bsize hb1
      go_wp2_with fail
      refine (l1Size_any _ _).mono ?_
      rintro e w' ⟨rfl, rfl⟩
      (go_wp2_with fail; go_call (l1Done_any (n * x) (n * y) _) as e w2 ⟨rfl, hb2⟩); replace hb1 := belowTo hb1 hb2; clear hb2 hc1 hf1 hz1; obtain ⟨hc1, hf1⟩ := bcell hb1; have hz1 := bsize hb1
      go_wp2
      have hB := belowTo (a := w) (by go_grown) hb1; have hS := hB.size; (refine bodyPost_ret (by simp [results, Tryd.results27, go_sem, bcs hb1]; try rfl) rfl ?_); clear hb1
      exact ⟨rfl, by go_grown⟩

/-! VecDet, VecProduct -/
set_option maxHeartbeats 2000000 in
theorem vecDet_any (x1 y1 x2 y2 : Int) (w : World) (hg : EtOk w) :
    Calls Tryd.prog 30 #[.agg #[.int .i64 (x1), .int .i64 (y1)], .agg #[.int .i64 (x2), .int .i64 (y2)]] w fun e w' => e = .returned (.tuple #[.int .i64 (gate (twoOk x1 y1 x2 y2) (detZ x1 y1 x2 y2)), .bool (twoOk x1 y1 x2 y2)]) ∧ Below w.heap.size w w' := by
  cases h : twoOk x1 y1 x2 y2
  · go_enter Tryd.func30, Tryd.ntmps30
    (go_wp2_with fail; go_call (checkAll_vv_out x1 y1 x2 y2 _ _ h) as e w1 ⟨rfl, hb1⟩); obtain ⟨hc1, hf1⟩ := bcell hb1; have hz1 := bsize hb1
    (go_wp2_with fail; go_call (none_hit _ _ (hg.below (belowTo (a := w) (by go_grown) hb1))) as e w2 ⟨rfl, hb2⟩); replace hb1 := belowTo hb1 hb2; clear hb2 hc1 hf1 hz1; obtain ⟨hc1, hf1⟩ := bcell hb1; have hz1 := bsize hb1
    go_wp2
    go_returns
    exact ⟨rfl, belowTo (by go_grown) hb1⟩
  · have h12 : vecB x1 y1 = true ∧ vecB x2 y2 = true := by simpa [twoOk] using h
    obtain ⟨h1, h2⟩ := h12
    clear h
    go_enter Tryd.func30, Tryd.ntmps30
    (go_wp2_with fail; go_call (checkAll_vv_in x1 y1 x2 y2 _ _ h1 h2) as e w1 ⟨rfl, hb1⟩); obtain ⟨hc1, hf1⟩ := bcell hb1; have hz1 := bsize hb1
    (go_wp2_with fail; go_call (none_nil _) as e w2 ⟨rfl, hb2⟩); replace hb1 := belowTo hb1 hb2; clear hb2 hc1 hf1 hz1; obtain ⟨hc1, hf1⟩ := bcell hb1; have hz1 := bsize hb1
    (go_wp2_with fail; go_call (det_any x1 y1 x2 y2 _ h1 h2) as e w2 ⟨rfl, hb2⟩); replace hb1 := belowTo hb1 hb2; clear hb2 hc1 hf1 hz1; obtain ⟨hc1, hf1⟩ := bcell hb1; have hz1 := bsize hb1
    go_wp2
    go_returns
    exact ⟨rfl, belowTo (by go_grown) hb1⟩
set_option maxHeartbeats 2000000 in
theorem vecProduct_any (x1 y1 x2 y2 : Int) (w : World) (hg : EtOk w) :
    Calls Tryd.prog 32 #[.agg #[.int .i64 (x1), .int .i64 (y1)], .agg #[.int .i64 (x2), .int .i64 (y2)]] w fun e w' => e = .returned (.tuple #[.int .i64 (gate (twoOk x1 y1 x2 y2) (dotZ x1 y1 x2 y2)), .bool (twoOk x1 y1 x2 y2)]) ∧ Below w.heap.size w w' := by
  cases h : twoOk x1 y1 x2 y2
  · go_enter Tryd.func32, Tryd.ntmps32
    (go_wp2_with fail; go_call (checkAll_vv_out x1 y1 x2 y2 _ _ h) as e w1 ⟨rfl, hb1⟩); obtain ⟨hc1, hf1⟩ := bcell hb1; have hz1 := bsize hb1
    (go_wp2_with fail; go_call (none_hit _ _ (hg.below (belowTo (a := w) (by go_grown) hb1))) as e w2 ⟨rfl, hb2⟩); replace hb1 := belowTo hb1 hb2; clear hb2 hc1 hf1 hz1; obtain ⟨hc1, hf1⟩ := bcell hb1; have hz1 := bsize hb1
    go_wp2
    go_returns
    exact ⟨rfl, belowTo (by go_grown) hb1⟩
  · have h12 : vecB x1 y1 = true ∧ vecB x2 y2 = true := by simpa [twoOk] using h
    obtain ⟨h1, h2⟩ := h12
    clear h
    go_enter Tryd.func32, Tryd.ntmps32
    (go_wp2_with fail; go_call (checkAll_vv_in x1 y1 x2 y2 _ _ h1 h2) as e w1 ⟨rfl, hb1⟩); obtain ⟨hc1, hf1⟩ := bcell hb1; have hz1 := bsize hb1
    (go_wp2_with fail; go_call (none_nil _) as e w2 ⟨rfl, hb2⟩); replace hb1 := belowTo hb1 hb2; clear hb2 hc1 hf1 hz1; obtain ⟨hc1, hf1⟩ := bcell hb1; have hz1 := bsize hb1
    (go_wp2_with fail; go_call (product_any x1 y1 x2 y2 _ h1 h2) as e w2 ⟨rfl, hb2⟩); replace hb1 := belowTo hb1 hb2; clear hb2 hc1 hf1 hz1; obtain ⟨hc1, hf1⟩ := bcell hb1; have hz1 := bsize hb1
    go_wp2
    go_returns
    exact ⟨rfl, belowTo (by go_grown) hb1⟩
set_option maxHeartbeats 1000000 in
theorem l1Det_any (x1 y1 x2 y2 : Int) (w : World) (h1 : vecB x1 y1 = true) (h2 : vecB x2 y2 = true) :
    Calls Tryd.prog 58 #[.agg #[.int .i64 (x1), .int .i64 (y1)], .agg #[.int .i64 (x2), .int .i64 (y2)]] w fun e w' => e = .returned (.int .i64 (detZ x1 y1 x2 y2)) ∧ Below w.heap.size w w' := by
  obtain ⟨a1, b1⟩ := szs h1
  obtain ⟨a2, b2⟩ := szs h2
  obtain ⟨_, _⟩ := mul_bd a1 b2
  obtain ⟨_, _⟩ := mul_bd b1 a2
  clear h1 h2 a1 b1 a2 b2
  go_enter Tryd.func58, Tryd.ntmps58
  go_wp2
  go_returns
  exact ⟨rfl, by go_grown⟩
set_option maxHeartbeats 1000000 in
theorem l1Product_any (x1 y1 x2 y2 : Int) (w : World) (h1 : vecB x1 y1 = true) (h2 : vecB x2 y2 = true) :
    Calls Tryd.prog 60 #[.agg #[.int .i64 (x1), .int .i64 (y1)], .agg #[.int .i64 (x2), .int .i64 (y2)]] w fun e w' => e = .returned (.int .i64 (dotZ x1 y1 x2 y2)) ∧ Below w.heap.size w w' := by
  obtain ⟨a1, b1⟩ := szs h1
  obtain ⟨a2, b2⟩ := szs h2
  obtain ⟨_, _⟩ := mul_bd a1 a2
  obtain ⟨_, _⟩ := mul_bd b1 b2
  clear h1 h2 a1 b1 a2 b2
  go_enter Tryd.func60, Tryd.ntmps60
  go_wp2
  go_returns
  exact ⟨rfl, by go_grown⟩
set_option maxHeartbeats 2000000 in
theorem specVecDet_any (x1 y1 x2 y2 : Int) (w : World) :
    Calls Tryd.prog 29 #[.agg #[.int .i64 (x1), .int .i64 (y1)], .agg #[.int .i64 (x2), .int .i64 (y2)]] w fun e w' => e = .returned (.tuple #[.int .i64 (gate (twoOk x1 y1 x2 y2) (detZ x1 y1 x2 y2)), .bool (twoOk x1 y1 x2 y2)]) ∧ Below w.heap.size w w' := by
  unfold twoOk
  cases h1 : vecB x1 y1
  · go_enter Tryd.func29, Tryd.ntmps29
    (go_wp2_with fail; go_call (specVecIn_any x1 y1 _) as e w1 ⟨rfl, hb1⟩); obtain ⟨hc1, hf1⟩ := bcell hb1; have hz1 := bsize hb1
    go_wp2
    go_returns
    exact ⟨rfl, belowTo (by go_grown) hb1⟩
  · cases h2 : vecB x2 y2
    · go_enter Tryd.func29, Tryd.ntmps29
      (go_wp2_with fail; go_call (specVecIn_any x1 y1 _) as e w1 ⟨rfl, hb1⟩); obtain ⟨hc1, hf1⟩ := bcell hb1; have hz1 := bsize hb1
      (go_wp2_with fail; go_call (specVecIn_any x2 y2 _) as e w2 ⟨rfl, hb2⟩); replace hb1 := belowTo hb1 hb2; clear hb2 hc1 hf1 hz1; obtain ⟨hc1, hf1⟩ := bcell hb1; have hz1 := bsize hb1
      go_wp2
      go_returns
      exact ⟨rfl, belowTo (by go_grown) hb1⟩
    · go_enter Tryd.func29, Tryd.ntmps29
      (go_wp2_with fail; go_call (specVecIn_any x1 y1 _) as e w1 ⟨rfl, hb1⟩); obtain ⟨hc1, hf1⟩ := bcell hb1; have hz1 := bsize hb1
      (go_wp2_with fail; go_call (specVecIn_any x2 y2 _) as e w2 ⟨rfl, hb2⟩); replace hb1 := belowTo hb1 hb2; clear hb2 hc1 hf1 hz1; obtain ⟨hc1, hf1⟩ := bcell hb1; have hz1 := bsize hb1
      (go_wp2_with fail; go_call (l1Det_any x1 y1 x2 y2 _ h1 h2) as e w2 ⟨rfl, hb2⟩); replace hb1 := belowTo hb1 hb2; clear hb2 hc1 hf1 hz1; obtain ⟨hc1, hf1⟩ := bcell hb1; have hz1 := bsize hb1
      go_wp2
      go_returns
      exact ⟨rfl, belowTo (by go_grown) hb1⟩
set_option maxHeartbeats 2000000 in
theorem specVecProduct_any (x1 y1 x2 y2 : Int) (w : World) :
    Calls Tryd.prog 31 #[.agg #[.int .i64 (x1), .int .i64 (y1)], .agg #[.int .i64 (x2), .int .i64 (y2)]] w fun e w' => e = .returned (.tuple #[.int .i64 (gate (twoOk x1 y1 x2 y2) (dotZ x1 y1 x2 y2)), .bool (twoOk x1 y1 x2 y2)]) ∧ Below w.heap.size w w' := by
  unfold twoOk
  cases h1 : vecB x1 y1
  · go_enter Tryd.func31, Tryd.ntmps31
    (go_wp2_with fail; go_call (specVecIn_any x1 y1 _) as e w1 ⟨rfl, hb1⟩); obtain ⟨hc1, hf1⟩ := bcell hb1; have hz1 := bsize hb1
    go_wp2
    go_returns
    exact ⟨rfl, belowTo (by go_grown) hb1⟩
  · cases h2 : vecB x2 y2
    · go_enter Tryd.func31, Tryd.ntmps31
      (go_wp2_with fail; go_call (specVecIn_any x1 y1 _) as e w1 ⟨rfl, hb1⟩); obtain ⟨hc1, hf1⟩ := bcell hb1; have hz1 := bsize hb1
      (go_wp2_with fail; go_call (specVecIn_any x2 y2 _) as e w2 ⟨rfl, hb2⟩); replace hb1 := belowTo hb1 hb2; clear hb2 hc1 hf1 hz1; obtain ⟨hc1, hf1⟩ := bcell hb1; have hz1 := bsize hb1
      go_wp2
      go_returns
      exact ⟨rfl, belowTo (by go_grown) hb1⟩
    · go_enter Tryd.func31, Tryd.ntmps31
      (go_wp2_with fail; go_call (specVecIn_any x1 y1 _) as e w1 ⟨rfl, hb1⟩); obtain ⟨hc1, hf1⟩ := bcell hb1; have hz1 := bsize hb1
      (go_wp2_with fail; go_call (specVecIn_any x2 y2 _) as e w2 ⟨rfl, hb2⟩); replace hb1 := belowTo hb1 hb2; clear hb2 hc1 hf1 hz1; obtain ⟨hc1, hf1⟩ := bcell hb1; have hz1 := bsize hb1
      (go_wp2_with fail; go_call (l1Product_any x1 y1 x2 y2 _ h1 h2) as e w2 ⟨rfl, hb2⟩); replace hb1 := belowTo hb1 hb2; clear hb2 hc1 hf1 hz1; obtain ⟨hc1, hf1⟩ := bcell hb1; have hz1 := bsize hb1
      go_wp2
      go_returns
      exact ⟨rfl, belowTo (by go_grown) hb1⟩

/-! VecTurn -/
set_option maxHeartbeats 2000000 in
theorem vecTurn_any (x y : Int) (w : World) (hg : EtOk w) :
    Calls Tryd.prog 36 #[.agg #[.int .i64 (x), .int .i64 (y)]] w fun e w' => e = .returned (.tuple #[.agg #[.int .i64 (gate (vecB x y) (-y)), .int .i64 (gate (vecB x y) x)], .bool (vecB x y)]) ∧ Below w.heap.size w w' := by
  cases h1 : vecB x y
  · go_enter Tryd.func36, Tryd.ntmps36
    (go_wp2_with fail; go_call (check_out x y _ h1) as e w1 ⟨rfl, hb1⟩); obtain ⟨hc1, hf1⟩ := bcell hb1; have hz1 := bsize hb1
    (go_wp2_with fail; go_call (none_hit _ _ (hg.below (belowTo (a := w) (by go_grown) hb1))) as e w2 ⟨rfl, hb2⟩); replace hb1 := belowTo hb1 hb2; clear hb2 hc1 hf1 hz1; obtain ⟨hc1, hf1⟩ := bcell hb1; have hz1 := bsize hb1
    go_wp2
    have hB := belowTo (a := w) (by go_grown) hb1; have hS := hB.size; (refine bodyPost_ret (by simp [results, Tryd.results36, go_sem, bcs hb1]; try rfl) rfl ?_); clear hb1
    exact ⟨rfl, by go_grown⟩
  · go_enter Tryd.func36, Tryd.ntmps36
    (go_wp2_with fail; go_call (check_in x y _ h1) as e w1 ⟨rfl, hb1⟩); obtain ⟨hc1, hf1⟩ := bcell hb1; have hz1 := bsize hb1
    (go_wp2_with fail; go_call (none_nil _) as e w2 ⟨rfl, hb2⟩); replace hb1 := belowTo hb1 hb2; clear hb2 hc1 hf1 hz1; obtain ⟨hc1, hf1⟩ := bcell hb1; have hz1 := bsize hb1
    (go_wp2_with fail; go_call (turn_any x y _ h1) as e w2 ⟨rfl, hb2⟩); replace hb1 := belowTo hb1 hb2; clear hb2 hc1 hf1 hz1; obtain ⟨hc1, hf1⟩ := bcell hb1; have hz1 := bsize hb1
    go_wp2
    have hB := belowTo (a := w) (by go_grown) hb1; have hS := hB.size; (refine bodyPost_ret (by simp [results, Tryd.results36, go_sem, bcs hb1]; try rfl) rfl ?_); clear hb1
    exact ⟨rfl, by go_grown⟩
set_option maxHeartbeats 2000000 in
theorem specVecTurn_any (x y : Int) (w : World) :
    Calls Tryd.prog 35 #[.agg #[.int .i64 (x), .int .i64 (y)]] w fun e w' => e = .returned (.tuple #[.agg #[.int .i64 (gate (vecB x y) (-y)), .int .i64 (gate (vecB x y) x)], .bool (vecB x y)]) ∧ Below w.heap.size w w' := by
  rw [show -y = 0 - y by omega]
  cases h1 : vecB x y
  · go_enter Tryd.func35, Tryd.ntmps35
    (go_wp2_with fail; go_call (specVecIn_any x y _) as e w1 ⟨rfl, hb1⟩); obtain ⟨hc1, hf1⟩ := bcell hb1; have hz1 := bsize hb1
    go_wp2
    have hB := belowTo (a := w) (by go_grown) hb1; have hS := hB.size; (refine bodyPost_ret (by simp [results, Tryd.results35, go_sem, bcs hb1]; try rfl) rfl ?_); clear hb1
    exact ⟨rfl, by go_grown⟩
  · obtain ⟨⟨_, _⟩, _, _⟩ := szs h1
    go_enter Tryd.func35, Tryd.ntmps35
    (go_wp2_with fail; go_call (specVecIn_any x y _) as e w1 ⟨rfl, hb1⟩); obtain ⟨hc1, hf1⟩ := bcell hb1; have hz1 := bsize hb1
    go_wp2
    have hB := belowTo (a := w) (by go_grown) hb1; have hS := hB.size; (refine bodyPost_ret (by simp [results, Tryd.results35, go_sem, bcs hb1]; try rfl) rfl ?_); clear hb1
    exact ⟨by simp [gate], by go_grown⟩
end Go.Proofs.YtdkdpfpfefpphaaDoor
