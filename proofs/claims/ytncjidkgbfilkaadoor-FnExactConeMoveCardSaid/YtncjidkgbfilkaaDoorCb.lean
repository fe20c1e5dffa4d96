/- Chapter 2: the index, what a cone has, parts, duals, moved cones: both sides. -/
import Derived.Test.YtncjidkgbfilkaaDoorCa
namespace Go.Proofs.YtncjidkgbfilkaaDoor
open Go.RowKit

set_option maxHeartbeats 1000000 in
theorem checkAll_cv_in (a b c d x y : Int) (B : Nat) (w : World) (h1 : coneB a b c d = true) (h2 : vecB x y = true)
    (c0 : w.cell? ⟨B, 0, none⟩ = some (.iface 29 (.agg #[.int .i64 (a), .int .i64 (b), .int .i64 (c), .int .i64 (d)]))) (c1 : w.cell? ⟨B, 1, none⟩ = some (.iface 27 (.agg #[.int .i64 (x), .int .i64 (y)]))) (hB : B < w.heap.size) :
    Calls Tryd.prog 41 #[.slice (some ⟨B, 0, none⟩) 2 2] w fun e w' => e = .returned .nilIface ∧ Below w.heap.size w w' := by
  go_enter Tryd.func41, Tryd.ntmps41
  go_wp2
  refine wp_loop_rounds 3 ?_
  rw [rounds_succ]
  go_wp2_with fail
  go_call (coneCheck_in a b c d _ h1) as e w1 ⟨rfl, hb1⟩
  have c1' : w1.cell? ⟨B, 1, none⟩ = some (.iface 27 (.agg #[.int .i64 (x), .int .i64 (y)])) := (hb1.cell (p := ⟨B, 1, none⟩) hB).trans c1
  clear c0 c1
  go_wp2_with fail
  rw [rounds_succ]
  go_wp2_with fail
  go_call (check_in x y _ h2) as e w2 ⟨rfl, hb2⟩
  clear c1'
  go_wp2_with fail
  rw [rounds_succ]
  go_wp2
  go_returns
  exact ⟨rfl, belowTo hb1 hb2⟩
set_option maxHeartbeats 1000000 in
theorem checkAll_cv_out (a b c d x y : Int) (B : Nat) (w : World) (h : cvOk a b c d x y = false)
    (c0 : w.cell? ⟨B, 0, none⟩ = some (.iface 29 (.agg #[.int .i64 (a), .int .i64 (b), .int .i64 (c), .int .i64 (d)]))) (c1 : w.cell? ⟨B, 1, none⟩ = some (.iface 27 (.agg #[.int .i64 (x), .int .i64 (y)]))) (hB : B < w.heap.size) :
    Calls Tryd.prog 41 #[.slice (some ⟨B, 0, none⟩) 2 2] w fun e w' => IsNone e ∧ Below w.heap.size w w' := by
  unfold cvOk at h
  cases h1 : coneB a b c d
  · clear h
    go_enter Tryd.func41, Tryd.ntmps41
    go_wp2
    refine wp_loop_rounds 3 ?_
    rw [rounds_succ]
    go_wp2_with fail
    go_call (coneCheck_out a b c d _ h1) as e w1 ⟨⟨s, rfl⟩, hb1⟩
    clear c0 c1
    go_wp2
    go_returns
    exact ⟨⟨_, rfl⟩, hb1⟩
  · have h2 : vecB x y = false := by simpa [h1] using h
    clear h
    go_enter Tryd.func41, Tryd.ntmps41
    go_wp2
    refine wp_loop_rounds 3 ?_
    rw [rounds_succ]
    go_wp2_with fail
    go_call (coneCheck_in a b c d _ h1) as e w1 ⟨rfl, hb1⟩
    have c1' : w1.cell? ⟨B, 1, none⟩ = some (.iface 27 (.agg #[.int .i64 (x), .int .i64 (y)])) := (hb1.cell (p := ⟨B, 1, none⟩) hB).trans c1
    clear c0 c1
    go_wp2_with fail
    rw [rounds_succ]
    go_wp2_with fail
    go_call (check_out x y _ h2) as e w2 ⟨rfl, hb2⟩
    clear c1'
    go_wp2
    go_returns
    exact ⟨⟨_, rfl⟩, belowTo hb1 hb2⟩
set_option maxHeartbeats 1000000 in
theorem checkAll_cm_in (a b c d e f g h0 : Int) (B : Nat) (w : World) (h1 : coneB a b c d = true) (h2 : matB e f g h0 = true)
    (c0 : w.cell? ⟨B, 0, none⟩ = some (.iface 29 (.agg #[.int .i64 (a), .int .i64 (b), .int .i64 (c), .int .i64 (d)]))) (c1 : w.cell? ⟨B, 1, none⟩ = some (.iface 48 (.agg #[.int .i64 (e), .int .i64 (f), .int .i64 (g), .int .i64 (h0)]))) (hB : B < w.heap.size) :
    Calls Tryd.prog 41 #[.slice (some ⟨B, 0, none⟩) 2 2] w fun e w' => e = .returned .nilIface ∧ Below w.heap.size w w' := by
  go_enter Tryd.func41, Tryd.ntmps41
  go_wp2
  refine wp_loop_rounds 3 ?_
  rw [rounds_succ]
  go_wp2_with fail
  go_call (coneCheck_in a b c d _ h1) as e w1 ⟨rfl, hb1⟩
  have c1' : w1.cell? ⟨B, 1, none⟩ = some (.iface 48 (.agg #[.int .i64 (e), .int .i64 (f), .int .i64 (g), .int .i64 (h0)])) := (hb1.cell (p := ⟨B, 1, none⟩) hB).trans c1
  clear c0 c1
  go_wp2_with fail
  rw [rounds_succ]
  go_wp2_with fail
  go_call (matCheck_in e f g h0 _ h2) as e w2 ⟨rfl, hb2⟩
  clear c1'
  go_wp2_with fail
  rw [rounds_succ]
  go_wp2
  go_returns
  exact ⟨rfl, belowTo hb1 hb2⟩
set_option maxHeartbeats 1000000 in
theorem checkAll_cm_out (a b c d e f g h0 : Int) (B : Nat) (w : World) (h : cmOk a b c d e f g h0 = false)
    (c0 : w.cell? ⟨B, 0, none⟩ = some (.iface 29 (.agg #[.int .i64 (a), .int .i64 (b), .int .i64 (c), .int .i64 (d)]))) (c1 : w.cell? ⟨B, 1, none⟩ = some (.iface 48 (.agg #[.int .i64 (e), .int .i64 (f), .int .i64 (g), .int .i64 (h0)]))) (hB : B < w.heap.size) :
    Calls Tryd.prog 41 #[.slice (some ⟨B, 0, none⟩) 2 2] w fun e w' => IsNone e ∧ Below w.heap.size w w' := by
  unfold cmOk at h
  cases h1 : coneB a b c d
  · clear h
    go_enter Tryd.func41, Tryd.ntmps41
    go_wp2
    refine wp_loop_rounds 3 ?_
    rw [rounds_succ]
    go_wp2_with fail
    go_call (coneCheck_out a b c d _ h1) as e w1 ⟨⟨s, rfl⟩, hb1⟩
    clear c0 c1
    go_wp2
    go_returns
    exact ⟨⟨_, rfl⟩, hb1⟩
  · have h2 : matB e f g h0 = false := by simpa [h1] using h
    clear h
    go_enter Tryd.func41, Tryd.ntmps41
    go_wp2
    refine wp_loop_rounds 3 ?_
    rw [rounds_succ]
    go_wp2_with fail
    go_call (coneCheck_in a b c d _ h1) as e w1 ⟨rfl, hb1⟩
    have c1' : w1.cell? ⟨B, 1, none⟩ = some (.iface 48 (.agg #[.int .i64 (e), .int .i64 (f), .int .i64 (g), .int .i64 (h0)])) := (hb1.cell (p := ⟨B, 1, none⟩) hB).trans c1
    clear c0 c1
    go_wp2_with fail
    rw [rounds_succ]
    go_wp2_with fail
    go_call (matCheck_out e f g h0 _ h2) as e w2 ⟨rfl, hb2⟩
    clear c1'
    go_wp2
    go_returns
    exact ⟨⟨_, rfl⟩, belowTo hb1 hb2⟩

/-! ConeIndex -/
set_option maxHeartbeats 2000000 in
theorem coneIndex_any (a b c d : Int) (w : World) (hg : EtOk w) :
    Calls Tryd.prog 15 #[.agg #[.int .i64 (a), .int .i64 (b), .int .i64 (c), .int .i64 (d)]] w fun e w' => e = .returned (.tuple #[.int .i64 (gate (coneB a b c d) (detZ a b c d)), .bool (coneB a b c d)]) ∧ Below w.heap.size w w' := by
  cases h : coneB a b c d
  · go_enter Tryd.func15, Tryd.ntmps15
    go_wp2_with fail
    go_call (coneCheck_out a b c d _ h) as e w1 ⟨⟨s, rfl⟩, hb1⟩
    obtain ⟨hc1, hf1⟩ := bcell hb1; have hz1 := bsize hb1
    (go_wp2_with fail; go_call (none_hit _ _ (hg.below (belowTo (a := w) (by go_grown) hb1))) as e w2 ⟨rfl, hb2⟩); replace hb1 := belowTo hb1 hb2; clear hb2 hc1 hf1 hz1; obtain ⟨hc1, hf1⟩ := bcell hb1; have hz1 := bsize hb1
    go_wp2
    go_returns
    exact ⟨rfl, belowTo (by go_grown) hb1⟩
  · obtain ⟨h1, _, h2, _, _⟩ := cone_in h
    go_enter Tryd.func15, Tryd.ntmps15
    (go_wp2_with fail; go_call (coneCheck_in a b c d _ h) as e w1 ⟨rfl, hb1⟩); obtain ⟨hc1, hf1⟩ := bcell hb1; have hz1 := bsize hb1
    (go_wp2_with fail; go_call (none_nil _) as e w2 ⟨rfl, hb2⟩); replace hb1 := belowTo hb1 hb2; clear hb2 hc1 hf1 hz1; obtain ⟨hc1, hf1⟩ := bcell hb1; have hz1 := bsize hb1
    (go_wp2_with fail; go_call (index_any a b c d _ h1 h2) as e w2 ⟨rfl, hb2⟩); replace hb1 := belowTo hb1 hb2; clear hb2 hc1 hf1 hz1; obtain ⟨hc1, hf1⟩ := bcell hb1; have hz1 := bsize hb1
    go_wp2
    go_returns
    exact ⟨rfl, belowTo (by go_grown) hb1⟩
set_option maxHeartbeats 2000000 in
theorem specConeIndex_any (a b c d : Int) (w : World) :
    Calls Tryd.prog 14 #[.agg #[.int .i64 (a), .int .i64 (b), .int .i64 (c), .int .i64 (d)]] w fun e w' => e = .returned (.tuple #[.int .i64 (gate (coneB a b c d) (detZ a b c d)), .bool (coneB a b c d)]) ∧ Below w.heap.size w w' := by
  cases h : coneB a b c d
  · go_enter Tryd.func14, Tryd.ntmps14
    (go_wp2_with fail; go_call (specConeIn_any a b c d _) as e w1 ⟨rfl, hb1⟩); obtain ⟨hc1, hf1⟩ := bcell hb1; have hz1 := bsize hb1
    go_wp2
    go_returns
    exact ⟨rfl, belowTo (by go_grown) hb1⟩
  · obtain ⟨h1, _, h2, _, _⟩ := cone_in h
    go_enter Tryd.func14, Tryd.ntmps14
    (go_wp2_with fail; go_call (specConeIn_any a b c d _) as e w1 ⟨rfl, hb1⟩); obtain ⟨hc1, hf1⟩ := bcell hb1; have hz1 := bsize hb1
    (go_wp2_with fail; go_call (l1Det_any a b c d _ h1 h2) as e w2 ⟨rfl, hb2⟩); replace hb1 := belowTo hb1 hb2; clear hb2 hc1 hf1 hz1; obtain ⟨hc1, hf1⟩ := bcell hb1; have hz1 := bsize hb1
    go_wp2
    go_returns
    exact ⟨rfl, belowTo (by go_grown) hb1⟩

/-! what a cone has -/
set_option maxHeartbeats 2000000 in
theorem parts_any (a b c d x y : Int) (w : World) (h1 : vecB a b = true) (h2 : vecB c d = true) (h3 : vecB x y = true) :
    Calls Tryd.prog 53 #[.agg #[.int .i64 (a), .int .i64 (b), .int .i64 (c), .int .i64 (d)], .agg #[.int .i64 (x), .int .i64 (y)]] w fun e w' => e = .returned (.tuple #[.int .i64 (detZ x y c d), .int .i64 (detZ a b x y)]) ∧ Below w.heap.size w w' := by
  go_enter Tryd.func53, Tryd.ntmps53
  go_upto_region 1 with fail
  go_region_held3 (fun w' => w'.cell? ⟨w.heap.size, 0, none⟩ = some (.int .i64 (a)) ∧ w'.cell? ⟨w.heap.size, 1, none⟩ = some (.int .i64 (b)) ∧ w'.cell? ⟨w.heap.size, 2, none⟩ = some (.int .i64 (c)) ∧ w'.cell? ⟨w.heap.size, 3, none⟩ = some (.int .i64 (d)) ∧ w'.cell? ⟨w.heap.size + 1, 0, none⟩ = some (.int .i64 (x)) ∧ w'.cell? ⟨w.heap.size + 1, 1, none⟩ = some (.int .i64 (y)) ∧ Below w.heap.size w w') ((go_split_ands; refine ⟨by (first | (with_reducible assumption) | (go_keep; done) | (go_cell; done) | (go_simp; done) | (simp [*]; done)), by (first | (with_reducible assumption) | (go_keep; done) | (go_cell; done) | (go_simp; done) | (simp [*]; done)), by (first | (with_reducible assumption) | (go_keep; done) | (go_cell; done) | (go_simp; done) | (simp [*]; done)), by (first | (with_reducible assumption) | (go_keep; done) | (go_cell; done) | (go_simp; done) | (simp [*]; done)), by (first | (with_reducible assumption) | (go_keep; done) | (go_cell; done) | (go_simp; done) | (simp [*]; done)), by (first | (with_reducible assumption) | (go_keep; done) | (go_cell; done) | (go_simp; done) | (simp [*]; done)), by first | (with_reducible assumption) | (go_grown; done)⟩)) (first | (go_at_call 57; go_call (det_any _ _ _ _ _ (by assumption) (by assumption)) as e w1 ⟨rfl, hb0⟩; go_split_ands; have q0 : w1.cell? ⟨w.heap.size, 0, none⟩ = some (.int .i64 (a)) := (hb0.cell (p := ⟨w.heap.size, 0, none⟩) (by first | (with_reducible assumption) | (go_size; done) | (simp; omega))).trans (by first | (with_reducible assumption) | (go_keep; done) | (go_cell; done) | (go_simp; done) | (simp [*]; done)); have q1 : w1.cell? ⟨w.heap.size, 1, none⟩ = some (.int .i64 (b)) := (hb0.cell (p := ⟨w.heap.size, 1, none⟩) (by first | (with_reducible assumption) | (go_size; done) | (simp; omega))).trans (by first | (with_reducible assumption) | (go_keep; done) | (go_cell; done) | (go_simp; done) | (simp [*]; done)); have q2 : w1.cell? ⟨w.heap.size, 2, none⟩ = some (.int .i64 (c)) := (hb0.cell (p := ⟨w.heap.size, 2, none⟩) (by first | (with_reducible assumption) | (go_size; done) | (simp; omega))).trans (by first | (with_reducible assumption) | (go_keep; done) | (go_cell; done) | (go_simp; done) | (simp [*]; done)); have q3 : w1.cell? ⟨w.heap.size, 3, none⟩ = some (.int .i64 (d)) := (hb0.cell (p := ⟨w.heap.size, 3, none⟩) (by first | (with_reducible assumption) | (go_size; done) | (simp; omega))).trans (by first | (with_reducible assumption) | (go_keep; done) | (go_cell; done) | (go_simp; done) | (simp [*]; done)); have q4 : w1.cell? ⟨w.heap.size + 1, 0, none⟩ = some (.int .i64 (x)) := (hb0.cell (p := ⟨w.heap.size + 1, 0, none⟩) (by first | (with_reducible assumption) | (go_size; done) | (simp; omega))).trans (by first | (with_reducible assumption) | (go_keep; done) | (go_cell; done) | (go_simp; done) | (simp [*]; done)); have q5 : w1.cell? ⟨w.heap.size + 1, 1, none⟩ = some (.int .i64 (y)) := (hb0.cell (p := ⟨w.heap.size + 1, 1, none⟩) (by first | (with_reducible assumption) | (go_size; done) | (simp; omega))).trans (by first | (with_reducible assumption) | (go_keep; done) | (go_cell; done) | (go_simp; done) | (simp [*]; done)); have hs0 : w.heap.size < w1.heap.size := Nat.lt_of_lt_of_le (by first | (with_reducible assumption) | (go_size; done) | (simp; omega)) hb0.size; have hs1 : w.heap.size + 1 < w1.heap.size := Nat.lt_of_lt_of_le (by first | (with_reducible assumption) | (go_size; done) | (simp; omega)) hb0.size; have hT : Below w.heap.size w w1 := belowTo (by first | (with_reducible assumption) | (go_grown; done)) hb0; have hTs := hT.size; clear hb0))
  all_goals (go_wp2; go_returns; exact ⟨rfl, by go_grown⟩)
set_option maxHeartbeats 2000000 in
theorem has_any (a b c d x y : Int) (w : World) (h1 : vecB a b = true) (h2 : vecB c d = true) (h3 : vecB x y = true) :
    Calls Tryd.prog 42 #[.agg #[.int .i64 (a), .int .i64 (b), .int .i64 (c), .int .i64 (d)], .agg #[.int .i64 (x), .int .i64 (y)]] w fun e w' => e = .returned (.bool (inB a b c d x y)) ∧ Below w.heap.size w w' := by
  rcases Int.lt_or_le (detZ x y c d) 0 with hp | hp
  · have hd : decide (0 ≤ detZ x y c d) = false := by simp; omega
    go_enter Tryd.func42, Tryd.ntmps42
    (go_wp2_with fail; go_call (parts_any a b c d x y _ h1 h2 h3) as e w1 ⟨rfl, hb1⟩); obtain ⟨hc1, hf1⟩ := bcell hb1; have hz1 := bsize hb1
    go_wp2
    go_returns
    exact ⟨ret_bool (by simp [inB, hd]), belowTo (by go_grown) hb1⟩
  · go_enter Tryd.func42, Tryd.ntmps42
    (go_wp2_with fail; go_call (parts_any a b c d x y _ h1 h2 h3) as e w1 ⟨rfl, hb1⟩); obtain ⟨hc1, hf1⟩ := bcell hb1; have hz1 := bsize hb1
    go_wp2
    go_returns
    exact ⟨ret_bool (by simp [inB, hp]), belowTo (by go_grown) hb1⟩
set_option maxHeartbeats 2000000 in
theorem l2Has_any (a b c d x y : Int) (w : World) (h1 : vecB a b = true) (h2 : vecB c d = true) (h3 : vecB x y = true) :
    Calls Tryd.prog 40 #[.agg #[.int .i64 (a), .int .i64 (b), .int .i64 (c), .int .i64 (d)], .agg #[.int .i64 (x), .int .i64 (y)]] w fun e w' => e = .returned (.bool (inB a b c d x y)) ∧ Below w.heap.size w w' := by
  rcases Int.lt_or_le (detZ a b x y) 0 with hp | hp
  · have hd : decide (0 ≤ detZ a b x y) = false := by simp; omega
    go_enter Tryd.func40, Tryd.ntmps40
    (go_wp2_with fail; go_call (l1Det_any a b x y _ h1 h3) as e w1 ⟨rfl, hb1⟩); obtain ⟨hc1, hf1⟩ := bcell hb1; have hz1 := bsize hb1
    go_wp2
    go_returns
    exact ⟨ret_bool (by simp [inB, hd]), belowTo (by go_grown) hb1⟩
  · go_enter Tryd.func40, Tryd.ntmps40
    (go_wp2_with fail; go_call (l1Det_any a b x y _ h1 h3) as e w1 ⟨rfl, hb1⟩); obtain ⟨hc1, hf1⟩ := bcell hb1; have hz1 := bsize hb1
    (go_wp2_with fail; go_call (l1Det_any x y c d _ h3 h2) as e w2 ⟨rfl, hb2⟩); replace hb1 := belowTo hb1 hb2; clear hb2 hc1 hf1 hz1; obtain ⟨hc1, hf1⟩ := bcell hb1; have hz1 := bsize hb1
    go_wp2
    go_returns
    exact ⟨ret_bool (by simp [inB, hp]), belowTo (by go_grown) hb1⟩
theorem cv_in {a b c d x y : Int} (h : cvOk a b c d x y = true) : coneB a b c d = true ∧ vecB x y = true := by simpa [cvOk] using h
set_option maxHeartbeats 2000000 in
theorem coneHas_any (a b c d x y : Int) (w : World) (hg : EtOk w) :
    Calls Tryd.prog 18 #[.agg #[.int .i64 (a), .int .i64 (b), .int .i64 (c), .int .i64 (d)], .agg #[.int .i64 (x), .int .i64 (y)]] w fun e w' => e = .returned (.bool (hasOk a b c d x y)) ∧ Below w.heap.size w w' := by
  unfold hasOk
  cases h : cvOk a b c d x y
  · go_enter Tryd.func18, Tryd.ntmps18
    go_wp2_with fail
    go_call (checkAll_cv_out a b c d x y _ _ h) as e w1 ⟨⟨s, rfl⟩, hb1⟩
    obtain ⟨hc1, hf1⟩ := bcell hb1; have hz1 := bsize hb1
    (go_wp2_with fail; go_call (none_hit _ _ (hg.below (belowTo (a := w) (by go_grown) hb1))) as e w2 ⟨rfl, hb2⟩); replace hb1 := belowTo hb1 hb2; clear hb2 hc1 hf1 hz1; obtain ⟨hc1, hf1⟩ := bcell hb1; have hz1 := bsize hb1
    go_wp2
    go_returns
    exact ⟨rfl, belowTo (by go_grown) hb1⟩
  · obtain ⟨hc, h3⟩ := cv_in h
    obtain ⟨h1, _, h2, _, _⟩ := cone_in hc
    clear h
    go_enter Tryd.func18, Tryd.ntmps18
    (go_wp2_with fail; go_call (checkAll_cv_in a b c d x y _ _ hc h3) as e w1 ⟨rfl, hb1⟩); obtain ⟨hc1, hf1⟩ := bcell hb1; have hz1 := bsize hb1
    (go_wp2_with fail; go_call (none_nil _) as e w2 ⟨rfl, hb2⟩); replace hb1 := belowTo hb1 hb2; clear hb2 hc1 hf1 hz1; obtain ⟨hc1, hf1⟩ := bcell hb1; have hz1 := bsize hb1
    (go_wp2_with fail; go_call (has_any a b c d x y _ h1 h2 h3) as e w2 ⟨rfl, hb2⟩); replace hb1 := belowTo hb1 hb2; clear hb2 hc1 hf1 hz1; obtain ⟨hc1, hf1⟩ := bcell hb1; have hz1 := bsize hb1
    go_wp2
    go_returns
    exact ⟨rfl, belowTo (by go_grown) hb1⟩
set_option maxHeartbeats 2000000 in
theorem specConeHas_any (a b c d x y : Int) (w : World) :
    Calls Tryd.prog 16 #[.agg #[.int .i64 (a), .int .i64 (b), .int .i64 (c), .int .i64 (d)], .agg #[.int .i64 (x), .int .i64 (y)]] w fun e w' => e = .returned (.bool (hasOk a b c d x y)) ∧ Below w.heap.size w w' := by
  unfold hasOk cvOk
  cases hc : coneB a b c d
  · go_enter Tryd.func16, Tryd.ntmps16
    (go_wp2_with fail; go_call (specConeIn_any a b c d _) as e w1 ⟨rfl, hb1⟩); obtain ⟨hc1, hf1⟩ := bcell hb1; have hz1 := bsize hb1
    go_wp2
    go_returns
    exact ⟨rfl, belowTo (by go_grown) hb1⟩
  · cases h3 : vecB x y
    · go_enter Tryd.func16, Tryd.ntmps16
      (go_wp2_with fail; go_call (specConeIn_any a b c d _) as e w1 ⟨rfl, hb1⟩); obtain ⟨hc1, hf1⟩ := bcell hb1; have hz1 := bsize hb1
      (go_wp2_with fail; go_call (specVecIn_any x y _) as e w2 ⟨rfl, hb2⟩); replace hb1 := belowTo hb1 hb2; clear hb2 hc1 hf1 hz1; obtain ⟨hc1, hf1⟩ := bcell hb1; have hz1 := bsize hb1
      go_wp2
      go_returns
      exact ⟨rfl, belowTo (by go_grown) hb1⟩
    · obtain ⟨h1, _, h2, _, _⟩ := cone_in hc
      go_enter Tryd.func16, Tryd.ntmps16
      (go_wp2_with fail; go_call (specConeIn_any a b c d _) as e w1 ⟨rfl, hb1⟩); obtain ⟨hc1, hf1⟩ := bcell hb1; have hz1 := bsize hb1
      (go_wp2_with fail; go_call (specVecIn_any x y _) as e w2 ⟨rfl, hb2⟩); replace hb1 := belowTo hb1 hb2; clear hb2 hc1 hf1 hz1; obtain ⟨hc1, hf1⟩ := bcell hb1; have hz1 := bsize hb1
      (go_wp2_with fail; go_call (l2Has_any a b c d x y _ h1 h2 h3) as e w2 ⟨rfl, hb2⟩); replace hb1 := belowTo hb1 hb2; clear hb2 hc1 hf1 hz1; obtain ⟨hc1, hf1⟩ := bcell hb1; have hz1 := bsize hb1
      go_wp2
      go_returns
      exact ⟨rfl, belowTo (by go_grown) hb1⟩

/-! ConeParts -/
theorem has_in {a b c d x y : Int} (h : hasOk a b c d x y = true) : cvOk a b c d x y = true ∧ inB a b c d x y = true := by simpa [hasOk] using h
set_option maxHeartbeats 2000000 in
theorem coneParts_any (a b c d x y : Int) (w : World) (hg : EtOk w) :
    Calls Tryd.prog 33 #[.agg #[.int .i64 (a), .int .i64 (b), .int .i64 (c), .int .i64 (d)], .agg #[.int .i64 (x), .int .i64 (y)]] w fun e w' => e = .returned (.tuple #[.int .i64 (gate (hasOk a b c d x y) (detZ x y c d)), .int .i64 (gate (hasOk a b c d x y) (detZ a b x y)), .bool (hasOk a b c d x y)]) ∧ Below w.heap.size w w' := by
  unfold hasOk
  cases h : cvOk a b c d x y
  · go_enter Tryd.func33, Tryd.ntmps33
    go_wp2_with fail
    go_call (checkAll_cv_out a b c d x y _ _ h) as e w1 ⟨⟨s, rfl⟩, hb1⟩
    obtain ⟨hc1, hf1⟩ := bcell hb1; have hz1 := bsize hb1
    (go_wp2_with fail; go_call (none_hit _ _ (hg.below (belowTo (a := w) (by go_grown) hb1))) as e w2 ⟨rfl, hb2⟩); replace hb1 := belowTo hb1 hb2; clear hb2 hc1 hf1 hz1; obtain ⟨hc1, hf1⟩ := bcell hb1; have hz1 := bsize hb1
    go_wp2
    go_returns
    exact ⟨rfl, belowTo (by go_grown) hb1⟩
  · obtain ⟨hc, h3⟩ := cv_in h
    obtain ⟨h1, _, h2, _, _⟩ := cone_in hc
    clear h
    cases hi : inB a b c d x y
    · go_enter Tryd.func33, Tryd.ntmps33
      (go_wp2_with fail; go_call (checkAll_cv_in a b c d x y _ _ hc h3) as e w1 ⟨rfl, hb1⟩); obtain ⟨hc1, hf1⟩ := bcell hb1; have hz1 := bsize hb1
      (go_wp2_with fail; go_call (none_nil _) as e w2 ⟨rfl, hb2⟩); replace hb1 := belowTo hb1 hb2; clear hb2 hc1 hf1 hz1; obtain ⟨hc1, hf1⟩ := bcell hb1; have hz1 := bsize hb1
      (go_wp2_with fail; go_call (has_any a b c d x y _ h1 h2 h3) as e w2 ⟨rfl, hb2⟩); replace hb1 := belowTo hb1 hb2; clear hb2 hc1 hf1 hz1; obtain ⟨hc1, hf1⟩ := bcell hb1; have hz1 := bsize hb1
      go_wp2
      go_returns
      exact ⟨rfl, belowTo (by go_grown) hb1⟩
    · go_enter Tryd.func33, Tryd.ntmps33
      (go_wp2_with fail; go_call (checkAll_cv_in a b c d x y _ _ hc h3) as e w1 ⟨rfl, hb1⟩); obtain ⟨hc1, hf1⟩ := bcell hb1; have hz1 := bsize hb1
      (go_wp2_with fail; go_call (none_nil _) as e w2 ⟨rfl, hb2⟩); replace hb1 := belowTo hb1 hb2; clear hb2 hc1 hf1 hz1; obtain ⟨hc1, hf1⟩ := bcell hb1; have hz1 := bsize hb1
      (go_wp2_with fail; go_call (has_any a b c d x y _ h1 h2 h3) as e w2 ⟨rfl, hb2⟩); replace hb1 := belowTo hb1 hb2; clear hb2 hc1 hf1 hz1; obtain ⟨hc1, hf1⟩ := bcell hb1; have hz1 := bsize hb1
      (go_wp2_with fail; go_call (parts_any a b c d x y _ h1 h2 h3) as e w2 ⟨rfl, hb2⟩); replace hb1 := belowTo hb1 hb2; clear hb2 hc1 hf1 hz1; obtain ⟨hc1, hf1⟩ := bcell hb1; have hz1 := bsize hb1
      go_wp2
      go_returns
      exact ⟨rfl, belowTo (by go_grown) hb1⟩
set_option maxHeartbeats 2000000 in
theorem specConeParts_any (a b c d x y : Int) (w : World) :
    Calls Tryd.prog 32 #[.agg #[.int .i64 (a), .int .i64 (b), .int .i64 (c), .int .i64 (d)], .agg #[.int .i64 (x), .int .i64 (y)]] w fun e w' => e = .returned (.tuple #[.int .i64 (gate (hasOk a b c d x y) (detZ x y c d)), .int .i64 (gate (hasOk a b c d x y) (detZ a b x y)), .bool (hasOk a b c d x y)]) ∧ Below w.heap.size w w' := by
  cases h : hasOk a b c d x y
  · go_enter Tryd.func32, Tryd.ntmps32
    (go_wp2_with fail; go_call (specConeHas_any a b c d x y _) as e w1 ⟨rfl, hb1⟩); obtain ⟨hc1, hf1⟩ := bcell hb1; have hz1 := bsize hb1
    go_wp2
    go_returns
    exact ⟨rfl, belowTo (by go_grown) hb1⟩
  · obtain ⟨hv, _⟩ := has_in h
    obtain ⟨hc, h3⟩ := cv_in hv
    obtain ⟨h1, _, h2, _, _⟩ := cone_in hc
    clear hv hc
    go_enter Tryd.func32, Tryd.ntmps32
    (go_wp2_with fail; go_call (specConeHas_any a b c d x y _) as e w1 ⟨rfl, hb1⟩); obtain ⟨hc1, hf1⟩ := bcell hb1; have hz1 := bsize hb1
    have hA : Below w.heap.size w w1 := belowTo (by go_grown) hb1
    have p0 : w1.cell? ⟨w.heap.size, 0, none⟩ = some (.int .i64 (a)) := (hb1.cell (p := ⟨w.heap.size, 0, none⟩) (by first | assumption | (go_size; done) | (simp; omega) | (simp only [World.size_alloc]; omega))).trans (by first | assumption | (go_cell; done) | (go_simp; done) | simp [*]); have pf0 : w1.frozen? ⟨w.heap.size, 0, none⟩ = false := (hb1.frozen (p := ⟨w.heap.size, 0, none⟩) (by first | assumption | (go_size; done) | (simp; omega) | (simp only [World.size_alloc]; omega))).trans (by first | assumption | (go_cell; done) | (go_simp; done) | simp [*]); have p1 : w1.cell? ⟨w.heap.size, 1, none⟩ = some (.int .i64 (b)) := (hb1.cell (p := ⟨w.heap.size, 1, none⟩) (by first | assumption | (go_size; done) | (simp; omega) | (simp only [World.size_alloc]; omega))).trans (by first | assumption | (go_cell; done) | (go_simp; done) | simp [*]); have pf1 : w1.frozen? ⟨w.heap.size, 1, none⟩ = false := (hb1.frozen (p := ⟨w.heap.size, 1, none⟩) (by first | assumption | (go_size; done) | (simp; omega) | (simp only [World.size_alloc]; omega))).trans (by first | assumption | (go_cell; done) | (go_simp; done) | simp [*]); have p2 : w1.cell? ⟨w.heap.size, 2, none⟩ = some (.int .i64 (c)) := (hb1.cell (p := ⟨w.heap.size, 2, none⟩) (by first | assumption | (go_size; done) | (simp; omega) | (simp only [World.size_alloc]; omega))).trans (by first | assumption | (go_cell; done) | (go_simp; done) | simp [*]); have pf2 : w1.frozen? ⟨w.heap.size, 2, none⟩ = false := (hb1.frozen (p := ⟨w.heap.size, 2, none⟩) (by first | assumption | (go_size; done) | (simp; omega) | (simp only [World.size_alloc]; omega))).trans (by first | assumption | (go_cell; done) | (go_simp; done) | simp [*]); have p3 : w1.cell? ⟨w.heap.size, 3, none⟩ = some (.int .i64 (d)) := (hb1.cell (p := ⟨w.heap.size, 3, none⟩) (by first | assumption | (go_size; done) | (simp; omega) | (simp only [World.size_alloc]; omega))).trans (by first | assumption | (go_cell; done) | (go_simp; done) | simp [*]); have pf3 : w1.frozen? ⟨w.heap.size, 3, none⟩ = false := (hb1.frozen (p := ⟨w.heap.size, 3, none⟩) (by first | assumption | (go_size; done) | (simp; omega) | (simp only [World.size_alloc]; omega))).trans (by first | assumption | (go_cell; done) | (go_simp; done) | simp [*])
    have r0 : w1.cell? ⟨w.heap.size + 1, 0, none⟩ = some (.int .i64 (x)) := (hb1.cell (p := ⟨w.heap.size + 1, 0, none⟩) (by first | assumption | (go_size; done) | (simp; omega) | (simp only [World.size_alloc]; omega))).trans (by first | assumption | (go_cell; done) | (go_simp; done) | simp [*]); have rf0 : w1.frozen? ⟨w.heap.size + 1, 0, none⟩ = false := (hb1.frozen (p := ⟨w.heap.size + 1, 0, none⟩) (by first | assumption | (go_size; done) | (simp; omega) | (simp only [World.size_alloc]; omega))).trans (by first | assumption | (go_cell; done) | (go_simp; done) | simp [*]); have r1 : w1.cell? ⟨w.heap.size + 1, 1, none⟩ = some (.int .i64 (y)) := (hb1.cell (p := ⟨w.heap.size + 1, 1, none⟩) (by first | assumption | (go_size; done) | (simp; omega) | (simp only [World.size_alloc]; omega))).trans (by first | assumption | (go_cell; done) | (go_simp; done) | simp [*]); have rf1 : w1.frozen? ⟨w.heap.size + 1, 1, none⟩ = false := (hb1.frozen (p := ⟨w.heap.size + 1, 1, none⟩) (by first | assumption | (go_size; done) | (simp; omega) | (simp only [World.size_alloc]; omega))).trans (by first | assumption | (go_cell; done) | (go_simp; done) | simp [*])
    have hl : w.heap.size + 1 < w1.heap.size := hz1 _ (by simp only [World.size_alloc]; omega)
    clear hc1 hf1 hz1 hb1 pf0 pf1 pf2 pf3 rf0 rf1
    go_upto_region 3 with fail
    go_region_held3 (fun w' => w'.cell? ⟨w.heap.size, 0, none⟩ = some (.int .i64 (a)) ∧ w'.cell? ⟨w.heap.size, 1, none⟩ = some (.int .i64 (b)) ∧ w'.cell? ⟨w.heap.size, 2, none⟩ = some (.int .i64 (c)) ∧ w'.cell? ⟨w.heap.size, 3, none⟩ = some (.int .i64 (d)) ∧ w'.cell? ⟨w.heap.size + 1, 0, none⟩ = some (.int .i64 (x)) ∧ w'.cell? ⟨w.heap.size + 1, 1, none⟩ = some (.int .i64 (y)) ∧ Below w.heap.size w w') ((go_split_ands; refine ⟨by (first | (with_reducible assumption) | (go_keep; done) | (go_cell; done) | (go_simp; done) | (simp [*]; done)), by (first | (with_reducible assumption) | (go_keep; done) | (go_cell; done) | (go_simp; done) | (simp [*]; done)), by (first | (with_reducible assumption) | (go_keep; done) | (go_cell; done) | (go_simp; done) | (simp [*]; done)), by (first | (with_reducible assumption) | (go_keep; done) | (go_cell; done) | (go_simp; done) | (simp [*]; done)), by (first | (with_reducible assumption) | (go_keep; done) | (go_cell; done) | (go_simp; done) | (simp [*]; done)), by (first | (with_reducible assumption) | (go_keep; done) | (go_cell; done) | (go_simp; done) | (simp [*]; done)), by first | (with_reducible assumption) | (go_grown; done)⟩)) (first | (go_at_call 35; go_call (l1Det_any _ _ _ _ _ (by assumption) (by assumption)) as e w1 ⟨rfl, hb0⟩; go_split_ands; have q0 : w1.cell? ⟨w.heap.size, 0, none⟩ = some (.int .i64 (a)) := (hb0.cell (p := ⟨w.heap.size, 0, none⟩) (by first | (with_reducible assumption) | (go_size; done) | (simp; omega))).trans (by first | (with_reducible assumption) | (go_keep; done) | (go_cell; done) | (go_simp; done) | (simp [*]; done)); have q1 : w1.cell? ⟨w.heap.size, 1, none⟩ = some (.int .i64 (b)) := (hb0.cell (p := ⟨w.heap.size, 1, none⟩) (by first | (with_reducible assumption) | (go_size; done) | (simp; omega))).trans (by first | (with_reducible assumption) | (go_keep; done) | (go_cell; done) | (go_simp; done) | (simp [*]; done)); have q2 : w1.cell? ⟨w.heap.size, 2, none⟩ = some (.int .i64 (c)) := (hb0.cell (p := ⟨w.heap.size, 2, none⟩) (by first | (with_reducible assumption) | (go_size; done) | (simp; omega))).trans (by first | (with_reducible assumption) | (go_keep; done) | (go_cell; done) | (go_simp; done) | (simp [*]; done)); have q3 : w1.cell? ⟨w.heap.size, 3, none⟩ = some (.int .i64 (d)) := (hb0.cell (p := ⟨w.heap.size, 3, none⟩) (by first | (with_reducible assumption) | (go_size; done) | (simp; omega))).trans (by first | (with_reducible assumption) | (go_keep; done) | (go_cell; done) | (go_simp; done) | (simp [*]; done)); have q4 : w1.cell? ⟨w.heap.size + 1, 0, none⟩ = some (.int .i64 (x)) := (hb0.cell (p := ⟨w.heap.size + 1, 0, none⟩) (by first | (with_reducible assumption) | (go_size; done) | (simp; omega))).trans (by first | (with_reducible assumption) | (go_keep; done) | (go_cell; done) | (go_simp; done) | (simp [*]; done)); have q5 : w1.cell? ⟨w.heap.size + 1, 1, none⟩ = some (.int .i64 (y)) := (hb0.cell (p := ⟨w.heap.size + 1, 1, none⟩) (by first | (with_reducible assumption) | (go_size; done) | (simp; omega))).trans (by first | (with_reducible assumption) | (go_keep; done) | (go_cell; done) | (go_simp; done) | (simp [*]; done)); have hs0 : w.heap.size < w1.heap.size := Nat.lt_of_lt_of_le (by first | (with_reducible assumption) | (go_size; done) | (simp; omega)) hb0.size; have hs1 : w.heap.size + 1 < w1.heap.size := Nat.lt_of_lt_of_le (by first | (with_reducible assumption) | (go_size; done) | (simp; omega)) hb0.size; have hT : Below w.heap.size w w1 := belowTo (by first | (with_reducible assumption) | (go_grown; done)) hb0; have hTs := hT.size; clear hb0))
    all_goals (go_wp2; go_returns; exact ⟨rfl, by go_grown⟩)
end Go.Proofs.YtncjidkgbfilkaaDoor
