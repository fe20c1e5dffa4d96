import Derived.Test.YtcieihbknfeddaaDoorB1
import Derived.Test.YtcieihbknfeddaaDoorB2
import Derived.Deep.RegionHeld3
import Derived.Deep.DeepCutAuto
import Derived.Test.YtcieihbknfeddaaDoorB3
/- Chapter 2: what a cone is, both sides. -/
namespace Go.Proofs.YtcieihbknfeddaaDoor
open Go.RowKit

set_option maxHeartbeats 1000000 in
theorem isPrimitive_any (x y : Int) (w : World) (h : vecB x y = true) :
    Calls Tryd.prog 91 #[.agg #[.int .i64 (x), .int .i64 (y)]] w fun e w' => e = .returned (.bool (oneB x y)) ∧ Below w.heap.size w w' := by
  obtain ⟨hx, hy⟩ := szs h
  go_enter Tryd.func91, Tryd.ntmps91
  (go_wp2_with fail; go_call (commonDivisor_any x y _ hx hy) as e w1 ⟨rfl, hb1⟩); obtain ⟨hc1, hf1⟩ := bcell hb1; have hz1 := bsize hb1
  go_wp2
  go_returns
  exact ⟨rfl, belowTo (by go_grown) hb1⟩
set_option maxHeartbeats 1000000 in
theorem l2Primitive_any (x y : Int) (w : World) :
    Calls Tryd.prog 82 #[.agg #[.int .i64 (x), .int .i64 (y)]] w fun e w' => e = .returned (.bool (primB x y)) ∧ Below w.heap.size w w' := by
  unfold primB
  cases h : vecB x y
  · go_enter Tryd.func82, Tryd.ntmps82
    (go_wp2_with fail; go_call (specVecIn_any x y _) as e w1 ⟨rfl, hb1⟩); obtain ⟨hc1, hf1⟩ := bcell hb1; have hz1 := bsize hb1
    go_wp2
    go_returns
    exact ⟨rfl, belowTo (by go_grown) hb1⟩
  · obtain ⟨hx, hy⟩ := szs h
    go_enter Tryd.func82, Tryd.ntmps82
    (go_wp2_with fail; go_call (specVecIn_any x y _) as e w1 ⟨rfl, hb1⟩); obtain ⟨hc1, hf1⟩ := bcell hb1; have hz1 := bsize hb1
    (go_wp2_with fail; go_call (l1Gcd_any x y _ hx hy) as e w2 ⟨rfl, hb2⟩); replace hb1 := belowTo hb1 hb2; clear hb2 hc1 hf1 hz1; obtain ⟨hc1, hf1⟩ := bcell hb1; have hz1 := bsize hb1
    go_wp2
    go_returns
    exact ⟨by rfl, belowTo (by go_grown) hb1⟩
set_option maxHeartbeats 1000000 in
theorem index_any (a b c d : Int) (w : World) (h1 : vecB a b = true) (h2 : vecB c d = true) :
    Calls Tryd.prog 151 #[.agg #[.int .i64 (a), .int .i64 (b), .int .i64 (c), .int .i64 (d)]] w fun e w' => e = .returned (.int .i64 (detZ a b c d)) ∧ Below w.heap.size w w' := by
  go_enter Tryd.func151, Tryd.ntmps151
  (go_wp2_with fail; go_call (det_any a b c d _ h1 h2) as e w1 ⟨rfl, hb1⟩); obtain ⟨hc1, hf1⟩ := bcell hb1; have hz1 := bsize hb1
  go_wp2
  go_returns
  exact ⟨rfl, belowTo (by go_grown) hb1⟩
set_option maxHeartbeats 2000000 in
theorem coneCheck_in (a b c d : Int) (w : World) (h : coneB a b c d = true) :
    Calls Tryd.prog 153 #[.agg #[.int .i64 (a), .int .i64 (b), .int .i64 (c), .int .i64 (d)]] w fun e w' => e = .returned .nilIface ∧ Below w.heap.size w w' := by
  obtain ⟨h1, o1, h2, o2, hp⟩ := cone_in h
  have hp' := posB_true hp
  clear h hp
  go_enter Tryd.func153, Tryd.ntmps153
  (go_wp2_with fail; go_call (checkAll_vv_in a b c d _ _ h1 h2) as e w1 ⟨rfl, hb1⟩); obtain ⟨hc1, hf1⟩ := bcell hb1; have hz1 := bsize hb1
  (go_wp2_with fail; go_call (isPrimitive_any a b _ h1) as e w2 ⟨rfl, hb2⟩); replace hb1 := belowTo hb1 hb2; clear hb2 hc1 hf1 hz1; obtain ⟨hc1, hf1⟩ := bcell hb1; have hz1 := bsize hb1
  (go_wp2_with fail; go_call (isPrimitive_any c d _ h2) as e w2 ⟨rfl, hb2⟩); replace hb1 := belowTo hb1 hb2; clear hb2 hc1 hf1 hz1; obtain ⟨hc1, hf1⟩ := bcell hb1; have hz1 := bsize hb1
  (go_wp2_with fail; go_call (index_any a b c d _ h1 h2) as e w2 ⟨rfl, hb2⟩); replace hb1 := belowTo hb1 hb2; clear hb2 hc1 hf1 hz1; obtain ⟨hc1, hf1⟩ := bcell hb1; have hz1 := bsize hb1
  go_wp2
  go_returns
  exact ⟨rfl, belowTo (by go_grown) hb1⟩
set_option maxHeartbeats 2000000 in
theorem coneCheck_out (a b c d : Int) (w : World) (h : coneB a b c d = false) :
    Calls Tryd.prog 153 #[.agg #[.int .i64 (a), .int .i64 (b), .int .i64 (c), .int .i64 (d)]] w fun e w' => IsNone e ∧ Below w.heap.size w w' := by
  rcases cone_out h with h' | ⟨h1, h2, h'⟩
  · clear h
    go_enter Tryd.func153, Tryd.ntmps153
    (go_wp2_with fail; go_call (checkAll_vv_out a b c d _ _ h') as e w1 ⟨rfl, hb1⟩); obtain ⟨hc1, hf1⟩ := bcell hb1; have hz1 := bsize hb1
    go_wp2
    go_returns
    exact ⟨⟨_, rfl⟩, belowTo (by go_grown) hb1⟩
  · clear h
    rcases h' with o1 | ⟨o1, o2⟩ | ⟨o1, o2, hp⟩
    · go_enter Tryd.func153, Tryd.ntmps153
      (go_wp2_with fail; go_call (checkAll_vv_in a b c d _ _ h1 h2) as e w1 ⟨rfl, hb1⟩); obtain ⟨hc1, hf1⟩ := bcell hb1; have hz1 := bsize hb1
      (go_wp2_with fail; go_call (isPrimitive_any a b _ h1) as e w2 ⟨rfl, hb2⟩); replace hb1 := belowTo hb1 hb2; clear hb2 hc1 hf1 hz1; obtain ⟨hc1, hf1⟩ := bcell hb1; have hz1 := bsize hb1
      go_wp2
      go_returns
      exact ⟨⟨_, rfl⟩, belowTo (by go_grown) hb1⟩
    · go_enter Tryd.func153, Tryd.ntmps153
      (go_wp2_with fail; go_call (checkAll_vv_in a b c d _ _ h1 h2) as e w1 ⟨rfl, hb1⟩); obtain ⟨hc1, hf1⟩ := bcell hb1; have hz1 := bsize hb1
      (go_wp2_with fail; go_call (isPrimitive_any a b _ h1) as e w2 ⟨rfl, hb2⟩); replace hb1 := belowTo hb1 hb2; clear hb2 hc1 hf1 hz1; obtain ⟨hc1, hf1⟩ := bcell hb1; have hz1 := bsize hb1
      (go_wp2_with fail; go_call (isPrimitive_any c d _ h2) as e w2 ⟨rfl, hb2⟩); replace hb1 := belowTo hb1 hb2; clear hb2 hc1 hf1 hz1; obtain ⟨hc1, hf1⟩ := bcell hb1; have hz1 := bsize hb1
      go_wp2
      go_returns
      exact ⟨⟨_, rfl⟩, belowTo (by go_grown) hb1⟩
    · have hp' := posB_false hp
      clear hp
      go_enter Tryd.func153, Tryd.ntmps153
      (go_wp2_with fail; go_call (checkAll_vv_in a b c d _ _ h1 h2) as e w1 ⟨rfl, hb1⟩); obtain ⟨hc1, hf1⟩ := bcell hb1; have hz1 := bsize hb1
      (go_wp2_with fail; go_call (isPrimitive_any a b _ h1) as e w2 ⟨rfl, hb2⟩); replace hb1 := belowTo hb1 hb2; clear hb2 hc1 hf1 hz1; obtain ⟨hc1, hf1⟩ := bcell hb1; have hz1 := bsize hb1
      (go_wp2_with fail; go_call (isPrimitive_any c d _ h2) as e w2 ⟨rfl, hb2⟩); replace hb1 := belowTo hb1 hb2; clear hb2 hc1 hf1 hz1; obtain ⟨hc1, hf1⟩ := bcell hb1; have hz1 := bsize hb1
      (go_wp2_with fail; go_call (index_any a b c d _ h1 h2) as e w2 ⟨rfl, hb2⟩); replace hb1 := belowTo hb1 hb2; clear hb2 hc1 hf1 hz1; obtain ⟨hc1, hf1⟩ := bcell hb1; have hz1 := bsize hb1
      go_wp2
      go_returns
      exact ⟨⟨_, rfl⟩, belowTo (by go_grown) hb1⟩
set_option maxHeartbeats 1000000 in
theorem eqCone_same (a b c d : Int) (w : World) :
    Calls Tryd.prog 39 #[.agg #[.int .i64 (a), .int .i64 (b), .int .i64 (c), .int .i64 (d)], .agg #[.int .i64 (a), .int .i64 (b), .int .i64 (c), .int .i64 (d)]] w fun e w' => e = .returned (.bool true) ∧ Below w.heap.size w w' := by
  go_enter Tryd.func39, Tryd.ntmps39
  (go_wp2_with fail; go_call (eqVec_same a b _) as e w1 ⟨rfl, hb1⟩); obtain ⟨hc1, hf1⟩ := bcell hb1; have hz1 := bsize hb1
  (go_wp2_with fail; go_call (eqVec_same c d _) as e w2 ⟨rfl, hb2⟩); replace hb1 := belowTo hb1 hb2; clear hb2 hc1 hf1 hz1; obtain ⟨hc1, hf1⟩ := bcell hb1; have hz1 := bsize hb1
  go_wp2
  go_returns
  exact ⟨rfl, belowTo (by go_grown) hb1⟩
end Go.Proofs.YtcieihbknfeddaaDoor

/- Chapter 2: the index, what a cone has, parts, duals, moved cones: both sides. -/
namespace Go.Proofs.YtcieihbknfeddaaDoor
open Go.RowKit

set_option maxHeartbeats 1000000 in
theorem checkAll_cv_in (a b c d x y : Int) (B : Nat) (w : World) (h1 : coneB a b c d = true) (h2 : vecB x y = true)
    (c0 : w.cell? ⟨B, 0, none⟩ = some (.iface 47 (.agg #[.int .i64 (a), .int .i64 (b), .int .i64 (c), .int .i64 (d)]))) (c1 : w.cell? ⟨B, 1, none⟩ = some (.iface 26 (.agg #[.int .i64 (x), .int .i64 (y)]))) (hB : B < w.heap.size) :
    Calls Tryd.prog 70 #[.slice (some ⟨B, 0, none⟩) 2 2] w fun e w' => e = .returned .nilIface ∧ Below w.heap.size w w' := by
  go_enter Tryd.func70, Tryd.ntmps70
  go_wp2
  refine wp_loop_rounds 3 ?_
  rw [rounds_succ]
  go_wp2_with fail
  go_call (coneCheck_in a b c d _ h1) as e w1 ⟨rfl, hb1⟩
  have c1' : w1.cell? ⟨B, 1, none⟩ = some (.iface 26 (.agg #[.int .i64 (x), .int .i64 (y)])) := (hb1.cell (p := ⟨B, 1, none⟩) hB).trans c1
  clear c0 c1
  go_wp2_with fail
  rw [rounds_succ]
  go_wp2_with fail
  go_call (check_in x y _ h2) as e w2 ⟨rfl, hb2⟩
  clear c1'
  go_wp2_with fail
  rw [rounds_succ]
  go_wp2
  go_returns
  exact ⟨rfl, belowTo hb1 hb2⟩
set_option maxHeartbeats 1000000 in
theorem checkAll_cv_out (a b c d x y : Int) (B : Nat) (w : World) (h : cvOk a b c d x y = false)
    (c0 : w.cell? ⟨B, 0, none⟩ = some (.iface 47 (.agg #[.int .i64 (a), .int .i64 (b), .int .i64 (c), .int .i64 (d)]))) (c1 : w.cell? ⟨B, 1, none⟩ = some (.iface 26 (.agg #[.int .i64 (x), .int .i64 (y)]))) (hB : B < w.heap.size) :
    Calls Tryd.prog 70 #[.slice (some ⟨B, 0, none⟩) 2 2] w fun e w' => IsNone e ∧ Below w.heap.size w w' := by
  unfold cvOk at h
  cases h1 : coneB a b c d
  · clear h
    go_enter Tryd.func70, Tryd.ntmps70
    go_wp2
    refine wp_loop_rounds 3 ?_
    rw [rounds_succ]
    go_wp2_with fail
    go_call (coneCheck_out a b c d _ h1) as e w1 ⟨⟨s, rfl⟩, hb1⟩
    clear c0 c1
    go_wp2
    go_returns
    exact ⟨⟨_, rfl⟩, hb1⟩
  · have h2 : vecB x y = false := by simpa [h1] using h
    clear h
    go_enter Tryd.func70, Tryd.ntmps70
    go_wp2
    refine wp_loop_rounds 3 ?_
    rw [rounds_succ]
    go_wp2_with fail
    go_call (coneCheck_in a b c d _ h1) as e w1 ⟨rfl, hb1⟩
    have c1' : w1.cell? ⟨B, 1, none⟩ = some (.iface 26 (.agg #[.int .i64 (x), .int .i64 (y)])) := (hb1.cell (p := ⟨B, 1, none⟩) hB).trans c1
    clear c0 c1
    go_wp2_with fail
    rw [rounds_succ]
    go_wp2_with fail
    go_call (check_out x y _ h2) as e w2 ⟨rfl, hb2⟩
    clear c1'
    go_wp2
    go_returns
    exact ⟨⟨_, rfl⟩, belowTo hb1 hb2⟩
set_option maxHeartbeats 1000000 in
theorem checkAll_cm_in (a b c d e f g h0 : Int) (B : Nat) (w : World) (h1 : coneB a b c d = true) (h2 : matB e f g h0 = true)
    (c0 : w.cell? ⟨B, 0, none⟩ = some (.iface 47 (.agg #[.int .i64 (a), .int .i64 (b), .int .i64 (c), .int .i64 (d)]))) (c1 : w.cell? ⟨B, 1, none⟩ = some (.iface 24 (.agg #[.int .i64 (e), .int .i64 (f), .int .i64 (g), .int .i64 (h0)]))) (hB : B < w.heap.size) :
    Calls Tryd.prog 70 #[.slice (some ⟨B, 0, none⟩) 2 2] w fun e w' => e = .returned .nilIface ∧ Below w.heap.size w w' := by
  go_enter Tryd.func70, Tryd.ntmps70
  go_wp2
  refine wp_loop_rounds 3 ?_
  rw [rounds_succ]
  go_wp2_with fail
  go_call (coneCheck_in a b c d _ h1) as e w1 ⟨rfl, hb1⟩
  have c1' : w1.cell? ⟨B, 1, none⟩ = some (.iface 24 (.agg #[.int .i64 (e), .int .i64 (f), .int .i64 (g), .int .i64 (h0)])) := (hb1.cell (p := ⟨B, 1, none⟩) hB).trans c1
  clear c0 c1
  go_wp2_with fail
  rw [rounds_succ]
  go_wp2_with fail
  go_call (matCheck_in e f g h0 _ h2) as e w2 ⟨rfl, hb2⟩
  clear c1'
  go_wp2_with fail
  rw [rounds_succ]
  go_wp2
  go_returns
  exact ⟨rfl, belowTo hb1 hb2⟩
set_option maxHeartbeats 1000000 in
theorem checkAll_cm_out (a b c d e f g h0 : Int) (B : Nat) (w : World) (h : cmOk a b c d e f g h0 = false)
    (c0 : w.cell? ⟨B, 0, none⟩ = some (.iface 47 (.agg #[.int .i64 (a), .int .i64 (b), .int .i64 (c), .int .i64 (d)]))) (c1 : w.cell? ⟨B, 1, none⟩ = some (.iface 24 (.agg #[.int .i64 (e), .int .i64 (f), .int .i64 (g), .int .i64 (h0)]))) (hB : B < w.heap.size) :
    Calls Tryd.prog 70 #[.slice (some ⟨B, 0, none⟩) 2 2] w fun e w' => IsNone e ∧ Below w.heap.size w w' := by
  unfold cmOk at h
  cases h1 : coneB a b c d
  · clear h
    go_enter Tryd.func70, Tryd.ntmps70
    go_wp2
    refine wp_loop_rounds 3 ?_
    rw [rounds_succ]
    go_wp2_with fail
    go_call (coneCheck_out a b c d _ h1) as e w1 ⟨⟨s, rfl⟩, hb1⟩
    clear c0 c1
    go_wp2
    go_returns
    exact ⟨⟨_, rfl⟩, hb1⟩
  · have h2 : matB e f g h0 = false := by simpa [h1] using h
    clear h
    go_enter Tryd.func70, Tryd.ntmps70
    go_wp2
    refine wp_loop_rounds 3 ?_
    rw [rounds_succ]
    go_wp2_with fail
    go_call (coneCheck_in a b c d _ h1) as e w1 ⟨rfl, hb1⟩
    have c1' : w1.cell? ⟨B, 1, none⟩ = some (.iface 24 (.agg #[.int .i64 (e), .int .i64 (f), .int .i64 (g), .int .i64 (h0)])) := (hb1.cell (p := ⟨B, 1, none⟩) hB).trans c1
    clear c0 c1
    go_wp2_with fail
    rw [rounds_succ]
    go_wp2_with fail
    go_call (matCheck_out e f g h0 _ h2) as e w2 ⟨rfl, hb2⟩
    clear c1'
    go_wp2
    go_returns
    exact ⟨⟨_, rfl⟩, belowTo hb1 hb2⟩

/-! ConeIndex -/
/-! what a cone has -/
set_option maxHeartbeats 2000000 in
theorem parts_any (a b c d x y : Int) (w : World) (h1 : vecB a b = true) (h2 : vecB c d = true) (h3 : vecB x y = true) :
    Calls Tryd.prog 152 #[.agg #[.int .i64 (a), .int .i64 (b), .int .i64 (c), .int .i64 (d)], .agg #[.int .i64 (x), .int .i64 (y)]] w fun e w' => e = .returned (.tuple #[.int .i64 (detZ x y c d), .int .i64 (detZ a b x y)]) ∧ Below w.heap.size w w' := by
  go_enter Tryd.func152, Tryd.ntmps152
  go_upto_region 1 with fail
  go_region_held3 (fun w' => w'.cell? ⟨w.heap.size, 0, none⟩ = some (.int .i64 (a)) ∧ w'.cell? ⟨w.heap.size, 1, none⟩ = some (.int .i64 (b)) ∧ w'.cell? ⟨w.heap.size, 2, none⟩ = some (.int .i64 (c)) ∧ w'.cell? ⟨w.heap.size, 3, none⟩ = some (.int .i64 (d)) ∧ w'.cell? ⟨w.heap.size + 1, 0, none⟩ = some (.int .i64 (x)) ∧ w'.cell? ⟨w.heap.size + 1, 1, none⟩ = some (.int .i64 (y)) ∧ Below w.heap.size w w') ((go_split_ands; refine ⟨by (first | (with_reducible assumption) | (go_keep; done) | (go_cell; done) | (go_simp; done) | (simp [*]; done)), by (first | (with_reducible assumption) | (go_keep; done) | (go_cell; done) | (go_simp; done) | (simp [*]; done)), by (first | (with_reducible assumption) | (go_keep; done) | (go_cell; done) | (go_simp; done) | (simp [*]; done)), by (first | (with_reducible assumption) | (go_keep; done) | (go_cell; done) | (go_simp; done) | (simp [*]; done)), by (first | (with_reducible assumption) | (go_keep; done) | (go_cell; done) | (go_simp; done) | (simp [*]; done)), by (first | (with_reducible assumption) | (go_keep; done) | (go_cell; done) | (go_simp; done) | (simp [*]; done)), by first | (with_reducible assumption) | (go_grown; done)⟩)) (first | (go_at_call 148; go_call (det_any _ _ _ _ _ (by assumption) (by assumption)) as e w1 ⟨rfl, hb0⟩; go_split_ands; have q0 : w1.cell? ⟨w.heap.size, 0, none⟩ = some (.int .i64 (a)) := (hb0.cell (p := ⟨w.heap.size, 0, none⟩) (by first | (with_reducible assumption) | (go_size; done) | (simp; omega))).trans (by first | (with_reducible assumption) | (go_keep; done) | (go_cell; done) | (go_simp; done) | (simp [*]; done)); have q1 : w1.cell? ⟨w.heap.size, 1, none⟩ = some (.int .i64 (b)) := (hb0.cell (p := ⟨w.heap.size, 1, none⟩) (by first | (with_reducible assumption) | (go_size; done) | (simp; omega))).trans (by first | (with_reducible assumption) | (go_keep; done) | (go_cell; done) | (go_simp; done) | (simp [*]; done)); have q2 : w1.cell? ⟨w.heap.size, 2, none⟩ = some (.int .i64 (c)) := (hb0.cell (p := ⟨w.heap.size, 2, none⟩) (by first | (with_reducible assumption) | (go_size; done) | (simp; omega))).trans (by first | (with_reducible assumption) | (go_keep; done) | (go_cell; done) | (go_simp; done) | (simp [*]; done)); have q3 : w1.cell? ⟨w.heap.size, 3, none⟩ = some (.int .i64 (d)) := (hb0.cell (p := ⟨w.heap.size, 3, none⟩) (by first | (with_reducible assumption) | (go_size; done) | (simp; omega))).trans (by first | (with_reducible assumption) | (go_keep; done) | (go_cell; done) | (go_simp; done) | (simp [*]; done)); have q4 : w1.cell? ⟨w.heap.size + 1, 0, none⟩ = some (.int .i64 (x)) := (hb0.cell (p := ⟨w.heap.size + 1, 0, none⟩) (by first | (with_reducible assumption) | (go_size; done) | (simp; omega))).trans (by first | (with_reducible assumption) | (go_keep; done) | (go_cell; done) | (go_simp; done) | (simp [*]; done)); have q5 : w1.cell? ⟨w.heap.size + 1, 1, none⟩ = some (.int .i64 (y)) := (hb0.cell (p := ⟨w.heap.size + 1, 1, none⟩) (by first | (with_reducible assumption) | (go_size; done) | (simp; omega))).trans (by first | (with_reducible assumption) | (go_keep; done) | (go_cell; done) | (go_simp; done) | (simp [*]; done)); have hs0 : w.heap.size < w1.heap.size := Nat.lt_of_lt_of_le (by first | (with_reducible assumption) | (go_size; done) | (simp; omega)) hb0.size; have hs1 : w.heap.size + 1 < w1.heap.size := Nat.lt_of_lt_of_le (by first | (with_reducible assumption) | (go_size; done) | (simp; omega)) hb0.size; have hT : Below w.heap.size w w1 := belowTo (by first | (with_reducible assumption) | (go_grown; done)) hb0; have hTs := hT.size; clear hb0))
  all_goals (go_wp2; go_returns; exact ⟨rfl, by go_grown⟩)
set_option maxHeartbeats 2000000 in
theorem has_any (a b c d x y : Int) (w : World) (h1 : vecB a b = true) (h2 : vecB c d = true) (h3 : vecB x y = true) :
    Calls Tryd.prog 130 #[.agg #[.int .i64 (a), .int .i64 (b), .int .i64 (c), .int .i64 (d)], .agg #[.int .i64 (x), .int .i64 (y)]] w fun e w' => e = .returned (.bool (inB a b c d x y)) ∧ Below w.heap.size w w' := by
  rcases Int.lt_or_le (detZ x y c d) 0 with hp | hp
  · have hd : decide (0 ≤ detZ x y c d) = false := by simp; omega
    go_enter Tryd.func130, Tryd.ntmps130
    (go_wp2_with fail; go_call (parts_any a b c d x y _ h1 h2 h3) as e w1 ⟨rfl, hb1⟩); obtain ⟨hc1, hf1⟩ := bcell hb1; have hz1 := bsize hb1
    go_wp2
    go_returns
    exact ⟨ret_bool (by simp [inB, hd]), belowTo (by go_grown) hb1⟩
  · go_enter Tryd.func130, Tryd.ntmps130
    (go_wp2_with fail; go_call (parts_any a b c d x y _ h1 h2 h3) as e w1 ⟨rfl, hb1⟩); obtain ⟨hc1, hf1⟩ := bcell hb1; have hz1 := bsize hb1
    go_wp2
    go_returns
    exact ⟨ret_bool (by simp [inB, hp]), belowTo (by go_grown) hb1⟩
set_option maxHeartbeats 2000000 in
theorem l2Has_any (a b c d x y : Int) (w : World) (h1 : vecB a b = true) (h2 : vecB c d = true) (h3 : vecB x y = true) :
    Calls Tryd.prog 98 #[.agg #[.int .i64 (a), .int .i64 (b), .int .i64 (c), .int .i64 (d)], .agg #[.int .i64 (x), .int .i64 (y)]] w fun e w' => e = .returned (.bool (inB a b c d x y)) ∧ Below w.heap.size w w' := by
  rcases Int.lt_or_le (detZ a b x y) 0 with hp | hp
  · have hd : decide (0 ≤ detZ a b x y) = false := by simp; omega
    go_enter Tryd.func98, Tryd.ntmps98
    (go_wp2_with fail; go_call (l1Det_any a b x y _ h1 h3) as e w1 ⟨rfl, hb1⟩); obtain ⟨hc1, hf1⟩ := bcell hb1; have hz1 := bsize hb1
    go_wp2
    go_returns
    exact ⟨ret_bool (by simp [inB, hd]), belowTo (by go_grown) hb1⟩
  · go_enter Tryd.func98, Tryd.ntmps98
    (go_wp2_with fail; go_call (l1Det_any a b x y _ h1 h3) as e w1 ⟨rfl, hb1⟩); obtain ⟨hc1, hf1⟩ := bcell hb1; have hz1 := bsize hb1
    (go_wp2_with fail; go_call (l1Det_any x y c d _ h3 h2) as e w2 ⟨rfl, hb2⟩); replace hb1 := belowTo hb1 hb2; clear hb2 hc1 hf1 hz1; obtain ⟨hc1, hf1⟩ := bcell hb1; have hz1 := bsize hb1
    go_wp2
    go_returns
    exact ⟨ret_bool (by simp [inB, hp]), belowTo (by go_grown) hb1⟩
theorem cv_in {a b c d x y : Int} (h : cvOk a b c d x y = true) : coneB a b c d = true ∧ vecB x y = true := by simpa [cvOk] using h
/-! ConeParts -/
theorem has_in {a b c d x y : Int} (h : hasOk a b c d x y = true) : cvOk a b c d x y = true ∧ inB a b c d x y = true := by simpa [hasOk] using h
end Go.Proofs.YtcieihbknfeddaaDoor

/- Fractions: the model's loop; FractionOf, both sides. -/
namespace Go.Proofs.YtcieihbknfeddaaDoor
open Go.RowKit

theorem Ints.empty (w : World) : Ints (w.alloc (.cells #[] 3)) w.heap.size (.slice (some ⟨w.heap.size, 0, none⟩) 0 0) [] :=
  World.ownsRow_made w #[] 0 (Nat.le_refl _) (by simp [maxLen]) rfl
set_option maxHeartbeats 4000000 in
theorem l2Fraction_any (n q : Int) (w : World) (h0 : 0 ≤ q) (h1 : q < n) (h2 : n ≤ 2000000) :
    Calls Tryd.prog 155 #[.int .i64 n, .int .i64 q] w (GivesInts w (fracZ n q)) := by
  obtain ⟨i0, hi, hz0, hz1, hz2⟩ := info_parts infoInt
  have hE := Lib.hid (Ints.empty w)
  go_enter Tryd.func155, Tryd.ntmps155
  go_wp2
  go_loopw [0, 1, 5] (fun s0 s1 s5 wr => ∃ (x y : Int) (done : List Int), s0 = .int .i64 x ∧ s1 = .int .i64 y ∧ Hid (Ints wr w.heap.size s5 done ∧ fracZ n q = done ++ fracZ x y) ∧ 0 ≤ y ∧ y < x ∧ x ≤ 2000000 ∧ done.length + y.toNat ≤ 2000000 ∧ Below w.heap.size w wr) (fun _ s1 _ _ => (intOf s1).toNat)
  case atStart => exact ⟨n, q, [], rfl, rfl, ⟨hE.out, rfl⟩, h0, h1, h2, by simp; omega, by go_grown⟩
  case round =>
    obtain ⟨x, y, done, rfl, rfl, HH, y0, yx, xm, hl, hB⟩ := hrel
    by_cases hy : 0 < y
    · have f1 : x ≤ (x + y - 1) / y * y := up_ge hy
      have f2 : (x + y - 1) / y * y < x + y := up_lt hy
      have f3 : (x + y - 1) / y ≤ x := up_le hy (by omega)
      have f4 : 2 ≤ (x + y - 1) / y := up_two hy yx
      have hown : wr.ownsRow w.heap.size 3 1 _ _ _ := HH.out.1
      have hbs := hB.size
      have hnext := HH.out.2
      rw [frac_pos x hy] at hnext
      have HN := Lib.hid hnext
      clear hnext HH hE
      go_wp2_with (at_builtin; refine wpList_append_own _ rfl _ _ 57 rfl w.heap.size 3 i0 (.int .i64 0) 1 8 Tryd.underlying57 hi hz0 hz1 hz2 rfl (by decide) _ _ _ rfl (hown.alloc _) ⟨wr.heap.size, 0, none⟩ 1 1 [.int .i64 ((x + y - 1) / y)] rfl rfl ?c1 ?c2 ?c3 ?c4 ?c5 ?_)
      case c1 =>
        intro j u hj
        match j, hj with
        | 0, hj => simp at hj; subst hj; simp [Addr.add]
      case c2 => intro u hu; simp at hu; subst hu; rfl
      case c3 => unfold maxLen; omega
      case c4 => omega
      case c5 => simp; omega
      intro v' w1 hown' hgrow _
      have hB1 : Below w.heap.size w w1 := (hB.alloc hbs _).grown hgrow (by simp; omega) (fun k hk => (hown.lt k hk).1)
      have H1 : Hid (Ints w1 w.heap.size v' (done ++ [upZ x y]) ∧ fracZ n q = (done ++ [upZ x y]) ++ fracZ y (upZ x y * y - x)) := by
        refine ⟨?_, by rw [HN.out]; simp⟩
        have : intsV (done ++ [upZ x y]) = intsV done ++ [.int .i64 ((x + y - 1) / y)] := by simp [intsV, upZ]
        unfold Ints
        rw [this, List.length_append]
        exact hown'
      clear hown hown' hgrow HN hB
      go_wp2
      go_roundw
      case rel => exact ⟨y, (x + y - 1) / y * y - x, done ++ [upZ x y], rfl, rfl, H1, by omega, by omega, by omega, by simp; omega, hB1⟩
      case measure => simp [intOf]; omega
    · have H := HH.out.1
      have he := HH.out.2
      rw [frac_zero x hy, List.append_nil] at he
      rw [← he] at H
      have H' := Lib.hid H
      clear H he HH hE
      go_wp2
      go_returns
      exact ⟨_, rfl, H'.out, hB⟩

/-! FractionOf -/
def gateL (b : Bool) (l : List Int) : List Int := if b then l else []
def fractOk (n q : Int) : Bool := decide (1 ≤ q) && (decide (q < n) && (decide (n ≤ 10000) && (gcdZ n q == 1)))
theorem fract_in {n q : Int} (h : fractOk n q = true) : 1 ≤ q ∧ q < n ∧ n ≤ 10000 ∧ gcdZ n q = 1 := by simpa [fractOk] using h
theorem fract_out {n q : Int} (h : fractOk n q = false) : q < 1 ∨ (1 ≤ q ∧ n ≤ q) ∨ (1 ≤ q ∧ q < n ∧ 10000 < n) ∨ (1 ≤ q ∧ q < n ∧ n ≤ 10000 ∧ gcdZ n q ≠ 1) := by
  by_cases h1 : 1 ≤ q <;> by_cases h2 : q < n <;> by_cases h3 : n ≤ 10000 <;> simp [fractOk, h1, h2, h3] at h ⊢ <;> omega
def FracGives (w : World) (n q : Int) (e : Ending) (w' : World) : Prop := GivesIntsOk w (gateL (fractOk n q) (fracZ n q)) (fractOk n q) e w'
theorem frac_none {w w' : World} {n q : Int} {v : Value} {e : Ending} (h : fractOk n q = false) (he : e = .returned (.tuple #[v, .bool false])) (hI : Ints w' w.heap.size v []) (hB : Below w.heap.size w w') : FracGives w n q e w' := by
  unfold FracGives
  rw [h]
  exact ⟨v, he, hI, hB⟩
end Go.Proofs.YtcieihbknfeddaaDoor

/- Chapter 2: the kind and the fraction of a cone: both sides. -/
namespace Go.Proofs.YtcieihbknfeddaaDoor
open Go.RowKit

set_option linter.unusedSimpArgs false in
set_option maxHeartbeats 2000000 in
theorem partner_k (k : Nat) : ∀ (x y : Int) (w : World), y.natAbs ≤ k → vecB x y = true → gcdZ x y = 1 →
    Calls Tryd.prog 176 #[.agg #[.int .i64 (x), .int .i64 (y)]] w fun e w' => e = .returned (.agg #[.int .i64 ((partZ x y).1), .int .i64 ((partZ x y).2)]) ∧ Below w.heap.size w w' := by
  induction k with
  | zero =>
    intro x y w hk hv hg
    obtain rfl : y = 0 := by omega
    rw [part_zero]
    go_enter Tryd.func176, Tryd.ntmps176
    go_wp2
    refine bodyPost_ret (by simp [results, Tryd.results176, go_sem, *]; try rfl) rfl ?_
    exact ⟨rfl, by go_grown⟩
  | succ k ih =>
    intro x y w hk hv hg
    by_cases hy : y = 0
    · subst hy
      rw [part_zero]
      go_enter Tryd.func176, Tryd.ntmps176
      go_wp2
      refine bodyPost_ret (by simp [results, Tryd.results176, go_sem, *]; try rfl) rfl ?_
      exact ⟨rfl, by go_grown⟩
    · obtain ⟨hx1, hy1⟩ := szs hv
      have hm := tmod_bd (y := y) hx1
      have hl := tmod_lt (x := x) hy
      have hg2 : gcdZ y (x.tmod y) = 1 := by rw [gcdZ_step]; exact hg
      have hv2 : vecB y (x.tmod y) = true := by
        have h1 : szB y = true := szB_mk hy1.1 hy1.2
        have h2 : szB (x.tmod y) = true := szB_mk hm.1 hm.2
        simp [vecB, h1, h2]
      obtain ⟨s1, s2⟩ := part_sz hg2 hy1 hm
      obtain ⟨_, s3⟩ := part_sz hg hx1 hy1
      have hd := tdiv_bd (m := y) hx1
      have hq := mul_bd hd s2
      rw [part_step x hy] at s3 ⊢
      have IH := fun w' => ih y (x.tmod y) w' (by omega) hv2 hg2
      generalize hp : partZ y (x.tmod y) = p at *
      obtain ⟨u, v⟩ := p
      simp only at s1 s2 s3 hq ⊢
      have hyb : (y == 0) = false := by simpa using hy
      have HI := Lib.hid IH
      clear IH ih hv hv2 hg hg2 hp
      go_enter Tryd.func176, Tryd.ntmps176
      go_upto_region 3 with fail
      obtain ⟨W0, hW⟩ : ∃ W9, W9 = (w.alloc (.cells #[.int .i64 x, .int .i64 y] 26)).alloc (.cells #[.int .i64 0, .int .i64 0] 26) := ⟨_, rfl⟩; have c0 : W0.cell? ⟨w.heap.size, 0, none⟩ = some (.int .i64 (x)) := (by rw [hW]; first | (simp; done) | (rw [World.cell?_alloc_lt _ _ ⟨_, _, none⟩ (by simp only [World.size_alloc]; omega)]; simp; done) | (rw [World.cell?_alloc_at _ _ _ _ (by simp only [World.size_alloc])]; simp)); have c1 : W0.cell? ⟨w.heap.size, 1, none⟩ = some (.int .i64 (y)) := (by rw [hW]; first | (simp; done) | (rw [World.cell?_alloc_lt _ _ ⟨_, _, none⟩ (by simp only [World.size_alloc]; omega)]; simp; done) | (rw [World.cell?_alloc_at _ _ _ _ (by simp only [World.size_alloc])]; simp)); have c2 : W0.cell? ⟨w.heap.size + 1, 0, none⟩ = some (.int .i64 (0)) := (by rw [hW]; first | (simp; done) | (rw [World.cell?_alloc_lt _ _ ⟨_, _, none⟩ (by simp only [World.size_alloc]; omega)]; simp; done) | (rw [World.cell?_alloc_at _ _ _ _ (by simp only [World.size_alloc])]; simp)); have c3 : W0.cell? ⟨w.heap.size + 1, 1, none⟩ = some (.int .i64 (0)) := (by rw [hW]; first | (simp; done) | (rw [World.cell?_alloc_lt _ _ ⟨_, _, none⟩ (by simp only [World.size_alloc]; omega)]; simp; done) | (rw [World.cell?_alloc_at _ _ _ _ (by simp only [World.size_alloc])]; simp)); have z0 : W0.frozen? ⟨w.heap.size, 0, none⟩ = false := (by rw [hW]; first | (simp; done) | (rw [World.frozen?_alloc_old _ _ ⟨_, _, none⟩ (by simp only [World.size_alloc]; omega)]; simp; done) | (rw [World.frozen?_alloc_at _ _ _ _ (by simp only [World.size_alloc])])); have z1 : W0.frozen? ⟨w.heap.size, 1, none⟩ = false := (by rw [hW]; first | (simp; done) | (rw [World.frozen?_alloc_old _ _ ⟨_, _, none⟩ (by simp only [World.size_alloc]; omega)]; simp; done) | (rw [World.frozen?_alloc_at _ _ _ _ (by simp only [World.size_alloc])])); have z2 : W0.frozen? ⟨w.heap.size + 1, 0, none⟩ = false := (by rw [hW]; first | (simp; done) | (rw [World.frozen?_alloc_old _ _ ⟨_, _, none⟩ (by simp only [World.size_alloc]; omega)]; simp; done) | (rw [World.frozen?_alloc_at _ _ _ _ (by simp only [World.size_alloc])])); have z3 : W0.frozen? ⟨w.heap.size + 1, 1, none⟩ = false := (by rw [hW]; first | (simp; done) | (rw [World.frozen?_alloc_old _ _ ⟨_, _, none⟩ (by simp only [World.size_alloc]; omega)]; simp; done) | (rw [World.frozen?_alloc_at _ _ _ _ (by simp only [World.size_alloc])])); have hB0 : Below w.heap.size w W0 := (by rw [hW]; go_grown); have hs0 : w.heap.size < W0.heap.size := (by rw [hW]; simp only [World.size_alloc]; omega); have hs1 : w.heap.size + 1 < W0.heap.size := (by rw [hW]; simp only [World.size_alloc]; omega); rw [← hW]; clear hW
      go_cut [3] (fun s3 wx => ∃ g3 : Nat, s3 = .pointer (some ⟨g3, 0, none⟩) ∧ wx.cell? ⟨g3, 0, none⟩ = some (.int .i64 u) ∧ wx.cell? ⟨g3, 1, none⟩ = some (.int .i64 v) ∧ g3 < wx.heap.size ∧ Below W0.heap.size W0 wx)
      case first =>
        go_region_held3 (fun w' => w'.cell? ⟨w.heap.size, 0, none⟩ = some (.int .i64 (x)) ∧ w'.cell? ⟨w.heap.size, 1, none⟩ = some (.int .i64 (y)) ∧ Below W0.heap.size W0 w') ((refine (fun hS => ⟨(hS.cell (p := ⟨w.heap.size, 0, none⟩) hs0).trans c0, (hS.cell (p := ⟨w.heap.size, 1, none⟩) hs0).trans c1, hS⟩) (?_ : Below W0.heap.size W0 _); first | (go_grown; done))) (first | (go_at_call 176; go_call (HI.out _) as e w1 ⟨rfl, hb0⟩; have hT : Below W0.heap.size W0 w1 := belowTo (by go_split_ands; assumption) hb0; have hTs := hT.size; (first | have hb1 := belowTo (by assumption) hb0 | have hb1 := hb0); obtain ⟨hc1, hf1⟩ := bcell hb1; have hz1 := bsize hb1; have hbs := hb0.size; (try simp only [World.size_alloc, World.size_drew, Nat.add_one_le_iff] at hbs); (try have t1 : W0.heap.size < w1.heap.size := (by omega)); (try have t2 : ¬ W0.heap.size = w1.heap.size := (by omega)); (try have t3 : ¬ w1.heap.size = W0.heap.size := (by omega))))
        all_goals (go_wp2_with fail; go_meet)
        all_goals exact ⟨_, rfl, by first | (go_cell; done) | (simp; done) | (simp [*]; done), by first | (go_cell; done) | (simp; done) | (simp [*]; done), by first | (go_size; done) | (simp [*]; done), by go_grown⟩
      case rest =>
        obtain ⟨g3, rfl, d0, d1, ld, hB1⟩ := hcut
        replace c0 := (hB1.cell (p := ⟨w.heap.size, 0, none⟩) hs0).trans c0
        replace c1 := (hB1.cell (p := ⟨w.heap.size, 1, none⟩) hs0).trans c1
        replace c2 := (hB1.cell (p := ⟨w.heap.size + 1, 0, none⟩) hs1).trans c2
        replace c3 := (hB1.cell (p := ⟨w.heap.size + 1, 1, none⟩) hs1).trans c3
        replace z2 := (hB1.frozen (p := ⟨w.heap.size + 1, 0, none⟩) hs1).trans z2
        replace z3 := (hB1.frozen (p := ⟨w.heap.size + 1, 1, none⟩) hs1).trans z3
        replace hs0 := Nat.lt_of_lt_of_le hs0 hB1.size
        replace hs1 := Nat.lt_of_lt_of_le hs1 hB1.size
        replace hB0 := belowTo hB0 hB1
        clear hB1
        go_wp2
        all_goals go_region
        all_goals go_wp2
        all_goals (refine bodyPost_ret (by simp [results, Tryd.results176, go_sem, *]; try rfl) rfl ?_)
        all_goals exact ⟨rfl, by go_grown⟩
theorem partner_any (x y : Int) (w : World) (hv : vecB x y = true) (hg : gcdZ x y = 1) :
    Calls Tryd.prog 176 #[.agg #[.int .i64 (x), .int .i64 (y)]] w fun e w' => e = .returned (.agg #[.int .i64 ((partZ x y).1), .int .i64 ((partZ x y).2)]) ∧ Below w.heap.size w w' :=
  partner_k _ x y w (Nat.le_refl _) hv hg
set_option maxHeartbeats 2000000 in
theorem rest_any (a n : Int) (w : World) (hn : 0 < n) (hn2 : n ≤ 2000000) :
    Calls Tryd.prog 175 #[.int .i64 a, .int .i64 n] w fun e w' => e = .returned (.int .i64 (a % n)) ∧ Below w.heap.size w w' := by
  obtain ⟨t1, t2⟩ := tmod_bds (a := a) hn
  have HR := Lib.hid (rest_is (a := a) hn)
  have hnb : (n == 0) = false := by simp; omega
  have hnn : ¬ n = 0 := by omega
  go_enter Tryd.func175, Tryd.ntmps175
  go_wp2
  go_returns
  refine ⟨?_, by go_grown⟩
  rw [← HR.out]
  first | rfl | (refine ret_int ?_; rfl) | skip
  all_goals first | rfl | (refine ret_int ?_; exact (Int.tmod_eq_emod_of_nonneg (by omega)).symm)
set_option maxHeartbeats 4000000 in
theorem kind_any (a b c d : Int) (w : World) (h : coneB a b c d = true) :
    Calls Tryd.prog 158 #[.agg #[.int .i64 (a), .int .i64 (b), .int .i64 (c), .int .i64 (d)]] w fun e w' => e = .returned (.int .i64 (kindC a b c d)) ∧ Below w.heap.size w w' := by
  obtain ⟨h1, o1, h2, o2, hp⟩ := cone_in h
  have hp' := posB_true hp
  have g1 := oneB_true o1
  have hn := det_sz h1 h2
  obtain ⟨x1, y1⟩ := szs h1
  obtain ⟨s1, s2⟩ := part_sz g1 x1 y1
  have hv : vecB (partZ a b).1 (partZ a b).2 = true := by
    have k1 : szB (partZ a b).1 = true := szB_mk s1.1 s1.2
    have k2 : szB (partZ a b).2 = true := szB_mk s2.1 s2.2
    simp [vecB, k1, k2]
  have hq := dot_sz hv h2
  have hk := kindC_is (a := a) (b := b) (c := c) (d := d)
  have HP := Lib.hid (fun w' => partner_any a b w' h1 g1)
  generalize hpp : partZ a b = p at *
  obtain ⟨u, v⟩ := p
  simp only at s1 s2 hv hq hk HP
  clear o1 o2 hp h g1 hpp
  go_enter Tryd.func158, Tryd.ntmps158
  (go_wp2_with fail; go_call (index_any a b c d _ h1 h2) as e w1 ⟨rfl, hb1⟩); obtain ⟨hc1, hf1⟩ := bcell hb1; have hz1 := bsize hb1
  have hA : Below w.heap.size w w1 := belowTo (by go_grown) hb1
  have p0 : w1.cell? ⟨w.heap.size, 0, none⟩ = some (.int .i64 (a)) := (hb1.cell (p := ⟨w.heap.size, 0, none⟩) (by first | assumption | (go_size; done) | (simp; omega) | (simp only [World.size_alloc]; omega))).trans (by first | assumption | (go_cell; done) | (go_simp; done) | simp [*]); have pf0 : w1.frozen? ⟨w.heap.size, 0, none⟩ = false := (hb1.frozen (p := ⟨w.heap.size, 0, none⟩) (by first | assumption | (go_size; done) | (simp; omega) | (simp only [World.size_alloc]; omega))).trans (by first | assumption | (go_cell; done) | (go_simp; done) | simp [*]); have p1 : w1.cell? ⟨w.heap.size, 1, none⟩ = some (.int .i64 (b)) := (hb1.cell (p := ⟨w.heap.size, 1, none⟩) (by first | assumption | (go_size; done) | (simp; omega) | (simp only [World.size_alloc]; omega))).trans (by first | assumption | (go_cell; done) | (go_simp; done) | simp [*]); have pf1 : w1.frozen? ⟨w.heap.size, 1, none⟩ = false := (hb1.frozen (p := ⟨w.heap.size, 1, none⟩) (by first | assumption | (go_size; done) | (simp; omega) | (simp only [World.size_alloc]; omega))).trans (by first | assumption | (go_cell; done) | (go_simp; done) | simp [*]); have p2 : w1.cell? ⟨w.heap.size, 2, none⟩ = some (.int .i64 (c)) := (hb1.cell (p := ⟨w.heap.size, 2, none⟩) (by first | assumption | (go_size; done) | (simp; omega) | (simp only [World.size_alloc]; omega))).trans (by first | assumption | (go_cell; done) | (go_simp; done) | simp [*]); have pf2 : w1.frozen? ⟨w.heap.size, 2, none⟩ = false := (hb1.frozen (p := ⟨w.heap.size, 2, none⟩) (by first | assumption | (go_size; done) | (simp; omega) | (simp only [World.size_alloc]; omega))).trans (by first | assumption | (go_cell; done) | (go_simp; done) | simp [*]); have p3 : w1.cell? ⟨w.heap.size, 3, none⟩ = some (.int .i64 (d)) := (hb1.cell (p := ⟨w.heap.size, 3, none⟩) (by first | assumption | (go_size; done) | (simp; omega) | (simp only [World.size_alloc]; omega))).trans (by first | assumption | (go_cell; done) | (go_simp; done) | simp [*]); have pf3 : w1.frozen? ⟨w.heap.size, 3, none⟩ = false := (hb1.frozen (p := ⟨w.heap.size, 3, none⟩) (by first | assumption | (go_size; done) | (simp; omega) | (simp only [World.size_alloc]; omega))).trans (by first | assumption | (go_cell; done) | (go_simp; done) | simp [*])
  have hl : w.heap.size < w1.heap.size := hz1 _ (by simp)
  have e1 : IntKind.i64.wrap (-(dotZ u v c d)) = -(dotZ u v c d) := by rw [IntKind.wrap_i64]; omega
  clear hc1 hf1 hz1 hb1 pf0 pf1 pf2 pf3
  go_upto_region 2 with fail
  go_region_held3 (fun w' => w'.cell? ⟨w.heap.size, 0, none⟩ = some (.int .i64 (a)) ∧ w'.cell? ⟨w.heap.size, 1, none⟩ = some (.int .i64 (b)) ∧ w'.cell? ⟨w.heap.size, 2, none⟩ = some (.int .i64 (c)) ∧ w'.cell? ⟨w.heap.size, 3, none⟩ = some (.int .i64 (d)) ∧ Below w.heap.size w w') ((go_split_ands; refine ⟨by (first | (with_reducible assumption) | (go_keep; done) | (go_cell; done) | (go_simp; done) | (simp [*]; done)), by (first | (with_reducible assumption) | (go_keep; done) | (go_cell; done) | (go_simp; done) | (simp [*]; done)), by (first | (with_reducible assumption) | (go_keep; done) | (go_cell; done) | (go_simp; done) | (simp [*]; done)), by (first | (with_reducible assumption) | (go_keep; done) | (go_cell; done) | (go_simp; done) | (simp [*]; done)), by first | (with_reducible assumption) | (go_grown; done)⟩)) (first | (go_at_call 176; go_call (HP.out _) as e w1 ⟨rfl, hb0⟩; go_split_ands; have q0 : w1.cell? ⟨w.heap.size, 0, none⟩ = some (.int .i64 (a)) := (hb0.cell (p := ⟨w.heap.size, 0, none⟩) (by first | (with_reducible assumption) | (go_size; done) | (simp; omega))).trans (by first | (with_reducible assumption) | (go_keep; done) | (go_cell; done) | (go_simp; done) | (simp [*]; done)); have q1 : w1.cell? ⟨w.heap.size, 1, none⟩ = some (.int .i64 (b)) := (hb0.cell (p := ⟨w.heap.size, 1, none⟩) (by first | (with_reducible assumption) | (go_size; done) | (simp; omega))).trans (by first | (with_reducible assumption) | (go_keep; done) | (go_cell; done) | (go_simp; done) | (simp [*]; done)); have q2 : w1.cell? ⟨w.heap.size, 2, none⟩ = some (.int .i64 (c)) := (hb0.cell (p := ⟨w.heap.size, 2, none⟩) (by first | (with_reducible assumption) | (go_size; done) | (simp; omega))).trans (by first | (with_reducible assumption) | (go_keep; done) | (go_cell; done) | (go_simp; done) | (simp [*]; done)); have q3 : w1.cell? ⟨w.heap.size, 3, none⟩ = some (.int .i64 (d)) := (hb0.cell (p := ⟨w.heap.size, 3, none⟩) (by first | (with_reducible assumption) | (go_size; done) | (simp; omega))).trans (by first | (with_reducible assumption) | (go_keep; done) | (go_cell; done) | (go_simp; done) | (simp [*]; done)); have hs0 : w.heap.size < w1.heap.size := Nat.lt_of_lt_of_le (by first | (with_reducible assumption) | (go_size; done) | (simp; omega)) hb0.size; have hT : Below w.heap.size w w1 := belowTo (by first | (with_reducible assumption) | (go_grown; done)) hb0; have hTs := hT.size; clear hb0) | (go_at_call 177; go_call (product_any u v c d _ hv h2) as e w1 ⟨rfl, hb0⟩; go_split_ands; have q0 : w1.cell? ⟨w.heap.size, 0, none⟩ = some (.int .i64 (a)) := (hb0.cell (p := ⟨w.heap.size, 0, none⟩) (by first | (with_reducible assumption) | (go_size; done) | (simp; omega))).trans (by first | (with_reducible assumption) | (go_keep; done) | (go_cell; done) | (go_simp; done) | (simp [*]; done)); have q1 : w1.cell? ⟨w.heap.size, 1, none⟩ = some (.int .i64 (b)) := (hb0.cell (p := ⟨w.heap.size, 1, none⟩) (by first | (with_reducible assumption) | (go_size; done) | (simp; omega))).trans (by first | (with_reducible assumption) | (go_keep; done) | (go_cell; done) | (go_simp; done) | (simp [*]; done)); have q2 : w1.cell? ⟨w.heap.size, 2, none⟩ = some (.int .i64 (c)) := (hb0.cell (p := ⟨w.heap.size, 2, none⟩) (by first | (with_reducible assumption) | (go_size; done) | (simp; omega))).trans (by first | (with_reducible assumption) | (go_keep; done) | (go_cell; done) | (go_simp; done) | (simp [*]; done)); have q3 : w1.cell? ⟨w.heap.size, 3, none⟩ = some (.int .i64 (d)) := (hb0.cell (p := ⟨w.heap.size, 3, none⟩) (by first | (with_reducible assumption) | (go_size; done) | (simp; omega))).trans (by first | (with_reducible assumption) | (go_keep; done) | (go_cell; done) | (go_simp; done) | (simp [*]; done)); have hs0 : w.heap.size < w1.heap.size := Nat.lt_of_lt_of_le (by first | (with_reducible assumption) | (go_size; done) | (simp; omega)) hb0.size; have hT : Below w.heap.size w w1 := belowTo (by first | (with_reducible assumption) | (go_grown; done)) hb0; have hTs := hT.size; clear hb0) | (go_at_call 175; go_call (rest_any (-(dotZ u v c d)) (detZ a b c d) _ hp' (by assumption)) as e w1 ⟨rfl, hb0⟩; go_split_ands; have q0 : w1.cell? ⟨w.heap.size, 0, none⟩ = some (.int .i64 (a)) := (hb0.cell (p := ⟨w.heap.size, 0, none⟩) (by first | (with_reducible assumption) | (go_size; done) | (simp; omega))).trans (by first | (with_reducible assumption) | (go_keep; done) | (go_cell; done) | (go_simp; done) | (simp [*]; done)); have q1 : w1.cell? ⟨w.heap.size, 1, none⟩ = some (.int .i64 (b)) := (hb0.cell (p := ⟨w.heap.size, 1, none⟩) (by first | (with_reducible assumption) | (go_size; done) | (simp; omega))).trans (by first | (with_reducible assumption) | (go_keep; done) | (go_cell; done) | (go_simp; done) | (simp [*]; done)); have q2 : w1.cell? ⟨w.heap.size, 2, none⟩ = some (.int .i64 (c)) := (hb0.cell (p := ⟨w.heap.size, 2, none⟩) (by first | (with_reducible assumption) | (go_size; done) | (simp; omega))).trans (by first | (with_reducible assumption) | (go_keep; done) | (go_cell; done) | (go_simp; done) | (simp [*]; done)); have q3 : w1.cell? ⟨w.heap.size, 3, none⟩ = some (.int .i64 (d)) := (hb0.cell (p := ⟨w.heap.size, 3, none⟩) (by first | (with_reducible assumption) | (go_size; done) | (simp; omega))).trans (by first | (with_reducible assumption) | (go_keep; done) | (go_cell; done) | (go_simp; done) | (simp [*]; done)); have hs0 : w.heap.size < w1.heap.size := Nat.lt_of_lt_of_le (by first | (with_reducible assumption) | (go_size; done) | (simp; omega)) hb0.size; have hT : Below w.heap.size w w1 := belowTo (by first | (with_reducible assumption) | (go_grown; done)) hb0; have hTs := hT.size; clear hb0))
  all_goals (go_wp2; go_returns; exact ⟨rfl, by go_grown⟩)
theorem mul_bd2 {q a : Int} (hq : 0 ≤ q ∧ q ≤ 2000000) (ha : -1000 ≤ a ∧ a ≤ 1000) : -2000000000 ≤ q * a ∧ q * a ≤ 2000000000 := by
  have h : (q * a).natAbs ≤ 2000000000 := by
    rw [Int.natAbs_mul]
    have := Nat.mul_le_mul (show q.natAbs ≤ 2000000 by omega) (show a.natAbs ≤ 1000 by omega)
    omega
  omega
set_option maxHeartbeats 4000000 in
theorem l2Kind_any (a b c d : Int) (w : World) (h : coneB a b c d = true) :
    Calls Tryd.prog 137 #[.agg #[.int .i64 (a), .int .i64 (b), .int .i64 (c), .int .i64 (d)]] w fun e w' => e = .returned (.int .i64 (kindC a b c d)) ∧ Below w.heap.size w w' := by
  obtain ⟨h1, o1, h2, o2, hp⟩ := cone_in h
  have hp' := posB_true hp
  have hn := det_sz h1 h2
  obtain ⟨xa, xb⟩ := szs h1
  obtain ⟨xc, xd⟩ := szs h2
  have hk := kindC_rng h
  have HA := Lib.hid (fun q => kindAsk_is (q := q) h)
  have hnb : (detZ a b c d == 0) = false := by simp; omega
  have hnn : ¬ detZ a b c d = 0 := by omega
  clear o1 o2 hp h
  generalize kindC a b c d = K at *
  go_enter Tryd.func137, Tryd.ntmps137
  (go_wp2_with fail; go_call (l1Det_any a b c d _ h1 h2) as e w1 ⟨rfl, hb1⟩); obtain ⟨hc1, hf1⟩ := bcell hb1; have hz1 := bsize hb1
  have hB1 : Below w.heap.size w w1 := belowTo (by go_grown) hb1
  have q0 : w1.cell? ⟨w.heap.size, 0, none⟩ = some (.int .i64 a) := (hb1.cell (p := ⟨w.heap.size, 0, none⟩) (by simp)).trans (by simp)
  have q1 : w1.cell? ⟨w.heap.size, 1, none⟩ = some (.int .i64 b) := (hb1.cell (p := ⟨w.heap.size, 1, none⟩) (by simp)).trans (by simp)
  have q2 : w1.cell? ⟨w.heap.size, 2, none⟩ = some (.int .i64 c) := (hb1.cell (p := ⟨w.heap.size, 2, none⟩) (by simp)).trans (by simp)
  have q3 : w1.cell? ⟨w.heap.size, 3, none⟩ = some (.int .i64 d) := (hb1.cell (p := ⟨w.heap.size, 3, none⟩) (by simp)).trans (by simp)
  have hlt : w.heap.size < w1.heap.size := hz1 _ (by simp)
  clear hc1 hf1 hz1 hb1
  generalize hN : detZ a b c d = N at *
  go_wp2
  go_loopw [4] (fun s3 wr => ∃ k : Int, s3 = .int .i64 k ∧ 0 ≤ k ∧ k ≤ K ∧ Below w1.heap.size w1 wr) (fun s3 _ => (K - intOf s3).toNat)
  case atStart => exact ⟨0, rfl, by omega, by omega, Below.refl _ _⟩
  case round =>
    obtain ⟨k, rfl, k0, k1, hB⟩ := hrel
    have p0 := (hB.cell (p := ⟨w.heap.size, 0, none⟩) hlt).trans q0
    have p1 := (hB.cell (p := ⟨w.heap.size, 1, none⟩) hlt).trans q1
    have p2 := (hB.cell (p := ⟨w.heap.size, 2, none⟩) hlt).trans q2
    have p3 := (hB.cell (p := ⟨w.heap.size, 3, none⟩) hlt).trans q3
    have hkn : k < N := by omega
    have m1 := mul_bd2 (a := a) (q := k) ⟨k0, by omega⟩ xa
    have m2 := mul_bd2 (a := b) (q := k) ⟨k0, by omega⟩ xb
    have hask := HA.out k k0 hkn
    unfold kindAsk at hask
    rw [hN] at hask
    by_cases hkk : k = K
    · have hb : (k == K) = true := by simpa using hkk
      rw [hb, Bool.and_eq_true] at hask
      obtain ⟨t1, t2⟩ := hask
      subst hkk
      clear q0 q1 q2 q3 hb
      go_wp2
      go_returns
      exact ⟨rfl, belowTo hB1 hB⟩
    · have hb : (k == K) = false := by simpa using hkk
      rw [hb] at hask
      clear q0 q1 q2 q3 hb
      cases t1 : (k * a + c).tmod N == 0
      · clear hask
        go_wp2
        go_roundw
        case rel => exact ⟨k + 1, rfl, by omega, by omega, by go_grown⟩
        case measure => simp [intOf]; omega
      · have t2 : ((k * b + d).tmod N == 0) = false := by simpa [t1] using hask
        clear hask
        go_wp2
        go_roundw
        case rel => exact ⟨k + 1, rfl, by omega, by omega, by go_grown⟩
        case measure => simp [intOf]; omega
end Go.Proofs.YtcieihbknfeddaaDoor

/- Chapter 2: the fraction of a cone: both sides. -/
namespace Go.Proofs.YtcieihbknfeddaaDoor
open Go.RowKit

theorem fracC_len {a b c d : Int} (h : coneB a b c d = true) : (fracC a b c d).length ≤ 2000000 := by
  obtain ⟨h1, _, h2, _, _⟩ := cone_in h
  have := frac_len (detZ a b c d) (kindC a b c d)
  have := det_sz h1 h2
  have := kindC_rng h
  unfold fracC
  omega
set_option maxHeartbeats 4000000 in
theorem coneFractionM_any (a b c d : Int) (w : World) (h : coneB a b c d = true) :
    Calls Tryd.prog 159 #[.agg #[.int .i64 (a), .int .i64 (b), .int .i64 (c), .int .i64 (d)]] w (GivesInts w (fracC a b c d)) := by
  obtain ⟨h1, _, h2, _, _⟩ := cone_in h
  have hn := det_sz h1 h2
  have hk := kindC_rng h
  have HF := Lib.hid (fun w' => fractionOf_any (detZ a b c d) (kindC a b c d) w' hk.1 hk.2 (by omega))
  obtain ⟨_, _⟩ := hk
  obtain ⟨_, _⟩ := hn
  go_enter Tryd.func159, Tryd.ntmps159
  go_upto_region 1 with fail
  go_region_held3 (fun w' => w'.cell? ⟨w.heap.size, 0, none⟩ = some (.int .i64 (a)) ∧ w'.cell? ⟨w.heap.size, 1, none⟩ = some (.int .i64 (b)) ∧ w'.cell? ⟨w.heap.size, 2, none⟩ = some (.int .i64 (c)) ∧ w'.cell? ⟨w.heap.size, 3, none⟩ = some (.int .i64 (d)) ∧ Below w.heap.size w w') ((go_split_ands; refine ⟨by (first | (with_reducible assumption) | (go_keep; done) | (go_cell; done) | (go_simp; done) | (simp [*]; done)), by (first | (with_reducible assumption) | (go_keep; done) | (go_cell; done) | (go_simp; done) | (simp [*]; done)), by (first | (with_reducible assumption) | (go_keep; done) | (go_cell; done) | (go_simp; done) | (simp [*]; done)), by (first | (with_reducible assumption) | (go_keep; done) | (go_cell; done) | (go_simp; done) | (simp [*]; done)), by first | (with_reducible assumption) | (go_grown; done)⟩)) (first | (go_at_call 151; go_call (index_any _ _ _ _ _ h1 h2) as e w1 ⟨rfl, hb0⟩; go_split_ands; have q0 : w1.cell? ⟨w.heap.size, 0, none⟩ = some (.int .i64 (a)) := (hb0.cell (p := ⟨w.heap.size, 0, none⟩) (by first | (with_reducible assumption) | (go_size; done) | (simp; omega))).trans (by first | (with_reducible assumption) | (go_keep; done) | (go_cell; done) | (go_simp; done) | (simp [*]; done)); have q1 : w1.cell? ⟨w.heap.size, 1, none⟩ = some (.int .i64 (b)) := (hb0.cell (p := ⟨w.heap.size, 1, none⟩) (by first | (with_reducible assumption) | (go_size; done) | (simp; omega))).trans (by first | (with_reducible assumption) | (go_keep; done) | (go_cell; done) | (go_simp; done) | (simp [*]; done)); have q2 : w1.cell? ⟨w.heap.size, 2, none⟩ = some (.int .i64 (c)) := (hb0.cell (p := ⟨w.heap.size, 2, none⟩) (by first | (with_reducible assumption) | (go_size; done) | (simp; omega))).trans (by first | (with_reducible assumption) | (go_keep; done) | (go_cell; done) | (go_simp; done) | (simp [*]; done)); have q3 : w1.cell? ⟨w.heap.size, 3, none⟩ = some (.int .i64 (d)) := (hb0.cell (p := ⟨w.heap.size, 3, none⟩) (by first | (with_reducible assumption) | (go_size; done) | (simp; omega))).trans (by first | (with_reducible assumption) | (go_keep; done) | (go_cell; done) | (go_simp; done) | (simp [*]; done)); have hs0 : w.heap.size < w1.heap.size := Nat.lt_of_lt_of_le (by first | (with_reducible assumption) | (go_size; done) | (simp; omega)) hb0.size; have hT : Below w.heap.size w w1 := belowTo (by first | (with_reducible assumption) | (go_grown; done)) hb0; have hTs := hT.size; clear hb0) | (go_at_call 158; go_call (kind_any _ _ _ _ _ h) as e w1 ⟨rfl, hb0⟩; go_split_ands; have q0 : w1.cell? ⟨w.heap.size, 0, none⟩ = some (.int .i64 (a)) := (hb0.cell (p := ⟨w.heap.size, 0, none⟩) (by first | (with_reducible assumption) | (go_size; done) | (simp; omega))).trans (by first | (with_reducible assumption) | (go_keep; done) | (go_cell; done) | (go_simp; done) | (simp [*]; done)); have q1 : w1.cell? ⟨w.heap.size, 1, none⟩ = some (.int .i64 (b)) := (hb0.cell (p := ⟨w.heap.size, 1, none⟩) (by first | (with_reducible assumption) | (go_size; done) | (simp; omega))).trans (by first | (with_reducible assumption) | (go_keep; done) | (go_cell; done) | (go_simp; done) | (simp [*]; done)); have q2 : w1.cell? ⟨w.heap.size, 2, none⟩ = some (.int .i64 (c)) := (hb0.cell (p := ⟨w.heap.size, 2, none⟩) (by first | (with_reducible assumption) | (go_size; done) | (simp; omega))).trans (by first | (with_reducible assumption) | (go_keep; done) | (go_cell; done) | (go_simp; done) | (simp [*]; done)); have q3 : w1.cell? ⟨w.heap.size, 3, none⟩ = some (.int .i64 (d)) := (hb0.cell (p := ⟨w.heap.size, 3, none⟩) (by first | (with_reducible assumption) | (go_size; done) | (simp; omega))).trans (by first | (with_reducible assumption) | (go_keep; done) | (go_cell; done) | (go_simp; done) | (simp [*]; done)); have hs0 : w.heap.size < w1.heap.size := Nat.lt_of_lt_of_le (by first | (with_reducible assumption) | (go_size; done) | (simp; omega)) hb0.size; have hT : Below w.heap.size w w1 := belowTo (by first | (with_reducible assumption) | (go_grown; done)) hb0; have hTs := hT.size; clear hb0) | (go_at_call 178; refine Calls.mono (HF.out _) ?_; rintro e w1 ⟨v, rfl, hI, hb0⟩; replace hI := Lib.hid (hI.lower (base' := w.heap.size) (by first | (go_size; done) | omega | assumption)); go_split_ands; have q0 : w1.cell? ⟨w.heap.size, 0, none⟩ = some (.int .i64 (a)) := (hb0.cell (p := ⟨w.heap.size, 0, none⟩) (by first | (with_reducible assumption) | (go_size; done) | (simp; omega))).trans (by first | (with_reducible assumption) | (go_keep; done) | (go_cell; done) | (go_simp; done) | (simp [*]; done)); have q1 : w1.cell? ⟨w.heap.size, 1, none⟩ = some (.int .i64 (b)) := (hb0.cell (p := ⟨w.heap.size, 1, none⟩) (by first | (with_reducible assumption) | (go_size; done) | (simp; omega))).trans (by first | (with_reducible assumption) | (go_keep; done) | (go_cell; done) | (go_simp; done) | (simp [*]; done)); have q2 : w1.cell? ⟨w.heap.size, 2, none⟩ = some (.int .i64 (c)) := (hb0.cell (p := ⟨w.heap.size, 2, none⟩) (by first | (with_reducible assumption) | (go_size; done) | (simp; omega))).trans (by first | (with_reducible assumption) | (go_keep; done) | (go_cell; done) | (go_simp; done) | (simp [*]; done)); have q3 : w1.cell? ⟨w.heap.size, 3, none⟩ = some (.int .i64 (d)) := (hb0.cell (p := ⟨w.heap.size, 3, none⟩) (by first | (with_reducible assumption) | (go_size; done) | (simp; omega))).trans (by first | (with_reducible assumption) | (go_keep; done) | (go_cell; done) | (go_simp; done) | (simp [*]; done)); have hs0 : w.heap.size < w1.heap.size := Nat.lt_of_lt_of_le (by first | (with_reducible assumption) | (go_size; done) | (simp; omega)) hb0.size; have hT : Below w.heap.size w w1 := belowTo (by first | (with_reducible assumption) | (go_grown; done)) hb0; have hTs := hT.size; clear hb0))
  all_goals (go_wp2; go_returns; exact ⟨_, rfl, Hid.out (by assumption), by go_grown⟩)
set_option maxHeartbeats 4000000 in
theorem l2List_any (a b c d : Int) (w : World) (h : coneB a b c d = true) :
    Calls Tryd.prog 136 #[.agg #[.int .i64 (a), .int .i64 (b), .int .i64 (c), .int .i64 (d)]] w (GivesInts w (fracC a b c d)) := by
  obtain ⟨h1, _, h2, _, _⟩ := cone_in h
  have hn := det_sz h1 h2
  have hk := kindC_rng h
  have HF := Lib.hid (fun w' => l2Fraction_any (detZ a b c d) (kindC a b c d) w' hk.1 hk.2 (by omega))
  by_cases h0 : detZ a b c d = 1
  · have hE := Lib.hid (fun w' : World => Ints.empty w')
    have e0 : fracC a b c d = [] := frac_zero _ (by omega)
    have E0 := Lib.hid e0
    have hb0 : (detZ a b c d == 1) = true := by simpa using h0
    clear hk hn HF e0 h
    go_enter Tryd.func136, Tryd.ntmps136
    (go_wp2_with fail; go_call (l1Det_any a b c d _ h1 h2) as e w1 ⟨rfl, hb1⟩); obtain ⟨hc1, hf1⟩ := bcell hb1; have hz1 := bsize hb1
    have hA : Below w.heap.size w w1 := belowTo (by go_grown) hb1
    clear hc1 hf1 hz1 hb1
    go_wp2
    go_returns
    refine ⟨_, rfl, ?_, by have := hA.size; go_grown⟩
    rw [E0.out]
    exact (hE.out _).lower hA.size
  · have hb0 : (detZ a b c d == 1) = false := by simpa using h0
    clear hk hn
    go_enter Tryd.func136, Tryd.ntmps136
    (go_wp2_with fail; go_call (l1Det_any a b c d _ h1 h2) as e w1 ⟨rfl, hb1⟩); obtain ⟨hc1, hf1⟩ := bcell hb1; have hz1 := bsize hb1
    (go_wp2_with fail; go_call (l2Kind_any a b c d _ h) as e w2 ⟨rfl, hb2⟩); replace hb1 := belowTo hb1 hb2; clear hb2 hc1 hf1 hz1; obtain ⟨hc1, hf1⟩ := bcell hb1; have hz1 := bsize hb1
    have hA : Below w.heap.size w w2 := belowTo (by go_grown) hb1
    go_wp2_with fail
    refine Calls.mono (HF.out _) ?_
    rintro e w3 ⟨v, rfl, hI, hb3⟩
    have hI' := Lib.hid (hI.lower hA.size)
    have hB := belowTo hA hb3
    clear hI hb3 hc1 hf1 hz1 hb1
    go_wp2
    go_returns
    exact ⟨_, rfl, hI'.out, hB⟩
end Go.Proofs.YtcieihbknfeddaaDoor
