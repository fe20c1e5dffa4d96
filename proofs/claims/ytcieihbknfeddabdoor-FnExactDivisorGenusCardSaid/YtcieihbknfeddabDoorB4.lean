import Derived.Test.YtcieihbknfeddabDoorB1
import Derived.Test.YtcieihbknfeddabDoorB2
import Derived.Deep.RegionHeld3
import Derived.Deep.DeepCutAuto
import Derived.Test.YtcieihbknfeddabDoorB3
/- Chapter 2: what a cone is, both sides. -/
namespace Go.Proofs.YtcieihbknfeddabDoor
open Go.RowKit

set_option maxHeartbeats 1000000 in
theorem isPrimitive_any (x y : Int) (w : World) (h : vecB x y = true) :
    Calls Tryd.prog 178 #[.agg #[.int .i64 (x), .int .i64 (y)]] w fun e w' => e = .returned (.bool (oneB x y)) ∧ Below w.heap.size w w' := by
  obtain ⟨hx, hy⟩ := szs h
  go_enter Tryd.func178, Tryd.ntmps178
  (go_wp2_with fail; go_call (commonDivisor_any x y _ hx hy) as e w1 ⟨rfl, hb1⟩); obtain ⟨hc1, hf1⟩ := bcell hb1; have hz1 := bsize hb1
  go_wp2
  go_returns
  exact ⟨rfl, belowTo (by go_grown) hb1⟩
set_option maxHeartbeats 1000000 in
theorem l2Primitive_any (x y : Int) (w : World) :
    Calls Tryd.prog 117 #[.agg #[.int .i64 (x), .int .i64 (y)]] w fun e w' => e = .returned (.bool (primB x y)) ∧ Below w.heap.size w w' := by
  unfold primB
  cases h : vecB x y
  · go_enter Tryd.func117, Tryd.ntmps117
    (go_wp2_with fail; go_call (specVecIn_any x y _) as e w1 ⟨rfl, hb1⟩); obtain ⟨hc1, hf1⟩ := bcell hb1; have hz1 := bsize hb1
    go_wp2
    go_returns
    exact ⟨rfl, belowTo (by go_grown) hb1⟩
  · obtain ⟨hx, hy⟩ := szs h
    go_enter Tryd.func117, Tryd.ntmps117
    (go_wp2_with fail; go_call (specVecIn_any x y _) as e w1 ⟨rfl, hb1⟩); obtain ⟨hc1, hf1⟩ := bcell hb1; have hz1 := bsize hb1
    (go_wp2_with fail; go_call (l1Gcd_any x y _ hx hy) as e w2 ⟨rfl, hb2⟩); replace hb1 := belowTo hb1 hb2; clear hb2 hc1 hf1 hz1; obtain ⟨hc1, hf1⟩ := bcell hb1; have hz1 := bsize hb1
    go_wp2
    go_returns
    exact ⟨by rfl, belowTo (by go_grown) hb1⟩
set_option maxHeartbeats 1000000 in
theorem index_any (a b c d : Int) (w : World) (h1 : vecB a b = true) (h2 : vecB c d = true) :
    Calls Tryd.prog 124 #[.agg #[.int .i64 (a), .int .i64 (b), .int .i64 (c), .int .i64 (d)]] w fun e w' => e = .returned (.int .i64 (detZ a b c d)) ∧ Below w.heap.size w w' := by
  go_enter Tryd.func124, Tryd.ntmps124
  (go_wp2_with fail; go_call (det_any a b c d _ h1 h2) as e w1 ⟨rfl, hb1⟩); obtain ⟨hc1, hf1⟩ := bcell hb1; have hz1 := bsize hb1
  go_wp2
  go_returns
  exact ⟨rfl, belowTo (by go_grown) hb1⟩
set_option maxHeartbeats 2000000 in
theorem coneCheck_in (a b c d : Int) (w : World) (h : coneB a b c d = true) :
    Calls Tryd.prog 174 #[.agg #[.int .i64 (a), .int .i64 (b), .int .i64 (c), .int .i64 (d)]] w fun e w' => e = .returned .nilIface ∧ Below w.heap.size w w' := by
  obtain ⟨h1, o1, h2, o2, hp⟩ := cone_in h
  have hp' := posB_true hp
  clear h hp
  go_enter Tryd.func174, Tryd.ntmps174
  (go_wp2_with fail; go_call (checkAll_vv_in a b c d _ _ h1 h2) as e w1 ⟨rfl, hb1⟩); obtain ⟨hc1, hf1⟩ := bcell hb1; have hz1 := bsize hb1
  (go_wp2_with fail; go_call (isPrimitive_any a b _ h1) as e w2 ⟨rfl, hb2⟩); replace hb1 := belowTo hb1 hb2; clear hb2 hc1 hf1 hz1; obtain ⟨hc1, hf1⟩ := bcell hb1; have hz1 := bsize hb1
  (go_wp2_with fail; go_call (isPrimitive_any c d _ h2) as e w2 ⟨rfl, hb2⟩); replace hb1 := belowTo hb1 hb2; clear hb2 hc1 hf1 hz1; obtain ⟨hc1, hf1⟩ := bcell hb1; have hz1 := bsize hb1
  (go_wp2_with fail; go_call (index_any a b c d _ h1 h2) as e w2 ⟨rfl, hb2⟩); replace hb1 := belowTo hb1 hb2; clear hb2 hc1 hf1 hz1; obtain ⟨hc1, hf1⟩ := bcell hb1; have hz1 := bsize hb1
  go_wp2
  go_returns
  exact ⟨rfl, belowTo (by go_grown) hb1⟩
set_option maxHeartbeats 2000000 in
theorem coneCheck_out (a b c d : Int) (w : World) (h : coneB a b c d = false) :
    Calls Tryd.prog 174 #[.agg #[.int .i64 (a), .int .i64 (b), .int .i64 (c), .int .i64 (d)]] w fun e w' => IsNone e ∧ Below w.heap.size w w' := by
  rcases cone_out h with h' | ⟨h1, h2, h'⟩
  · clear h
    go_enter Tryd.func174, Tryd.ntmps174
    (go_wp2_with fail; go_call (checkAll_vv_out a b c d _ _ h') as e w1 ⟨rfl, hb1⟩); obtain ⟨hc1, hf1⟩ := bcell hb1; have hz1 := bsize hb1
    go_wp2
    go_returns
    exact ⟨⟨_, rfl⟩, belowTo (by go_grown) hb1⟩
  · clear h
    rcases h' with o1 | ⟨o1, o2⟩ | ⟨o1, o2, hp⟩
    · go_enter Tryd.func174, Tryd.ntmps174
      (go_wp2_with fail; go_call (checkAll_vv_in a b c d _ _ h1 h2) as e w1 ⟨rfl, hb1⟩); obtain ⟨hc1, hf1⟩ := bcell hb1; have hz1 := bsize hb1
      (go_wp2_with fail; go_call (isPrimitive_any a b _ h1) as e w2 ⟨rfl, hb2⟩); replace hb1 := belowTo hb1 hb2; clear hb2 hc1 hf1 hz1; obtain ⟨hc1, hf1⟩ := bcell hb1; have hz1 := bsize hb1
      go_wp2
      go_returns
      exact ⟨⟨_, rfl⟩, belowTo (by go_grown) hb1⟩
    · go_enter Tryd.func174, Tryd.ntmps174
      (go_wp2_with fail; go_call (checkAll_vv_in a b c d _ _ h1 h2) as e w1 ⟨rfl, hb1⟩); obtain ⟨hc1, hf1⟩ := bcell hb1; have hz1 := bsize hb1
      (go_wp2_with fail; go_call (isPrimitive_any a b _ h1) as e w2 ⟨rfl, hb2⟩); replace hb1 := belowTo hb1 hb2; clear hb2 hc1 hf1 hz1; obtain ⟨hc1, hf1⟩ := bcell hb1; have hz1 := bsize hb1
      (go_wp2_with fail; go_call (isPrimitive_any c d _ h2) as e w2 ⟨rfl, hb2⟩); replace hb1 := belowTo hb1 hb2; clear hb2 hc1 hf1 hz1; obtain ⟨hc1, hf1⟩ := bcell hb1; have hz1 := bsize hb1
      go_wp2
      go_returns
      exact ⟨⟨_, rfl⟩, belowTo (by go_grown) hb1⟩
    · have hp' := posB_false hp
      clear hp
      go_enter Tryd.func174, Tryd.ntmps174
      (go_wp2_with fail; go_call (checkAll_vv_in a b c d _ _ h1 h2) as e w1 ⟨rfl, hb1⟩); obtain ⟨hc1, hf1⟩ := bcell hb1; have hz1 := bsize hb1
      (go_wp2_with fail; go_call (isPrimitive_any a b _ h1) as e w2 ⟨rfl, hb2⟩); replace hb1 := belowTo hb1 hb2; clear hb2 hc1 hf1 hz1; obtain ⟨hc1, hf1⟩ := bcell hb1; have hz1 := bsize hb1
      (go_wp2_with fail; go_call (isPrimitive_any c d _ h2) as e w2 ⟨rfl, hb2⟩); replace hb1 := belowTo hb1 hb2; clear hb2 hc1 hf1 hz1; obtain ⟨hc1, hf1⟩ := bcell hb1; have hz1 := bsize hb1
      (go_wp2_with fail; go_call (index_any a b c d _ h1 h2) as e w2 ⟨rfl, hb2⟩); replace hb1 := belowTo hb1 hb2; clear hb2 hc1 hf1 hz1; obtain ⟨hc1, hf1⟩ := bcell hb1; have hz1 := bsize hb1
      go_wp2
      go_returns
      exact ⟨⟨_, rfl⟩, belowTo (by go_grown) hb1⟩
end Go.Proofs.YtcieihbknfeddabDoor

/- Chapter 2: the index, what a cone has, parts, duals, moved cones: both sides. -/
namespace Go.Proofs.YtcieihbknfeddabDoor
open Go.RowKit

set_option maxHeartbeats 1000000 in
theorem checkAll_cv_in (a b c d x y : Int) (B : Nat) (w : World) (h1 : coneB a b c d = true) (h2 : vecB x y = true)
    (c0 : w.cell? ⟨B, 0, none⟩ = some (.iface 116 (.agg #[.int .i64 (a), .int .i64 (b), .int .i64 (c), .int .i64 (d)]))) (c1 : w.cell? ⟨B, 1, none⟩ = some (.iface 36 (.agg #[.int .i64 (x), .int .i64 (y)]))) (hB : B < w.heap.size) :
    Calls Tryd.prog 177 #[.slice (some ⟨B, 0, none⟩) 2 2] w fun e w' => e = .returned .nilIface ∧ Below w.heap.size w w' := by
  go_enter Tryd.func177, Tryd.ntmps177
  go_wp2
  refine wp_loop_rounds 3 ?_
  rw [rounds_succ]
  go_wp2_with fail
  go_call (coneCheck_in a b c d _ h1) as e w1 ⟨rfl, hb1⟩
  have c1' : w1.cell? ⟨B, 1, none⟩ = some (.iface 36 (.agg #[.int .i64 (x), .int .i64 (y)])) := (hb1.cell (p := ⟨B, 1, none⟩) hB).trans c1
  clear c0 c1
  go_wp2_with fail
  rw [rounds_succ]
  go_wp2_with fail
  go_call (check_in x y _ h2) as e w2 ⟨rfl, hb2⟩
  clear c1'
  go_wp2_with fail
  rw [rounds_succ]
  go_wp2
  go_returns
  exact ⟨rfl, belowTo hb1 hb2⟩
set_option maxHeartbeats 1000000 in
theorem checkAll_cv_out (a b c d x y : Int) (B : Nat) (w : World) (h : cvOk a b c d x y = false)
    (c0 : w.cell? ⟨B, 0, none⟩ = some (.iface 116 (.agg #[.int .i64 (a), .int .i64 (b), .int .i64 (c), .int .i64 (d)]))) (c1 : w.cell? ⟨B, 1, none⟩ = some (.iface 36 (.agg #[.int .i64 (x), .int .i64 (y)]))) (hB : B < w.heap.size) :
    Calls Tryd.prog 177 #[.slice (some ⟨B, 0, none⟩) 2 2] w fun e w' => IsNone e ∧ Below w.heap.size w w' := by
  unfold cvOk at h
  cases h1 : coneB a b c d
  · clear h
    go_enter Tryd.func177, Tryd.ntmps177
    go_wp2
    refine wp_loop_rounds 3 ?_
    rw [rounds_succ]
    go_wp2_with fail
    go_call (coneCheck_out a b c d _ h1) as e w1 ⟨⟨s, rfl⟩, hb1⟩
    clear c0 c1
    go_wp2
    go_returns
    exact ⟨⟨_, rfl⟩, hb1⟩
  · have h2 : vecB x y = false := by simpa [h1] using h
    clear h
    go_enter Tryd.func177, Tryd.ntmps177
    go_wp2
    refine wp_loop_rounds 3 ?_
    rw [rounds_succ]
    go_wp2_with fail
    go_call (coneCheck_in a b c d _ h1) as e w1 ⟨rfl, hb1⟩
    have c1' : w1.cell? ⟨B, 1, none⟩ = some (.iface 36 (.agg #[.int .i64 (x), .int .i64 (y)])) := (hb1.cell (p := ⟨B, 1, none⟩) hB).trans c1
    clear c0 c1
    go_wp2_with fail
    rw [rounds_succ]
    go_wp2_with fail
    go_call (check_out x y _ h2) as e w2 ⟨rfl, hb2⟩
    clear c1'
    go_wp2
    go_returns
    exact ⟨⟨_, rfl⟩, belowTo hb1 hb2⟩
/-! ConeIndex -/
/-! what a cone has -/
set_option maxHeartbeats 2000000 in
theorem parts_any (a b c d x y : Int) (w : World) (h1 : vecB a b = true) (h2 : vecB c d = true) (h3 : vecB x y = true) :
    Calls Tryd.prog 141 #[.agg #[.int .i64 (a), .int .i64 (b), .int .i64 (c), .int .i64 (d)], .agg #[.int .i64 (x), .int .i64 (y)]] w fun e w' => e = .returned (.tuple #[.int .i64 (detZ x y c d), .int .i64 (detZ a b x y)]) ∧ Below w.heap.size w w' := by
  go_enter Tryd.func141, Tryd.ntmps141
  go_upto_region 1 with fail
  go_region_held3 (fun w' => w'.cell? ⟨w.heap.size, 0, none⟩ = some (.int .i64 (a)) ∧ w'.cell? ⟨w.heap.size, 1, none⟩ = some (.int .i64 (b)) ∧ w'.cell? ⟨w.heap.size, 2, none⟩ = some (.int .i64 (c)) ∧ w'.cell? ⟨w.heap.size, 3, none⟩ = some (.int .i64 (d)) ∧ w'.cell? ⟨w.heap.size + 1, 0, none⟩ = some (.int .i64 (x)) ∧ w'.cell? ⟨w.heap.size + 1, 1, none⟩ = some (.int .i64 (y)) ∧ Below w.heap.size w w') ((go_split_ands; refine ⟨by (first | (with_reducible assumption) | (go_keep; done) | (go_cell; done) | (go_simp; done) | (simp [*]; done)), by (first | (with_reducible assumption) | (go_keep; done) | (go_cell; done) | (go_simp; done) | (simp [*]; done)), by (first | (with_reducible assumption) | (go_keep; done) | (go_cell; done) | (go_simp; done) | (simp [*]; done)), by (first | (with_reducible assumption) | (go_keep; done) | (go_cell; done) | (go_simp; done) | (simp [*]; done)), by (first | (with_reducible assumption) | (go_keep; done) | (go_cell; done) | (go_simp; done) | (simp [*]; done)), by (first | (with_reducible assumption) | (go_keep; done) | (go_cell; done) | (go_simp; done) | (simp [*]; done)), by first | (with_reducible assumption) | (go_grown; done)⟩)) (first | (go_at_call 145; go_call (det_any _ _ _ _ _ (by assumption) (by assumption)) as e w1 ⟨rfl, hb0⟩; go_split_ands; have q0 : w1.cell? ⟨w.heap.size, 0, none⟩ = some (.int .i64 (a)) := (hb0.cell (p := ⟨w.heap.size, 0, none⟩) (by first | (with_reducible assumption) | (go_size; done) | (simp; omega))).trans (by first | (with_reducible assumption) | (go_keep; done) | (go_cell; done) | (go_simp; done) | (simp [*]; done)); have q1 : w1.cell? ⟨w.heap.size, 1, none⟩ = some (.int .i64 (b)) := (hb0.cell (p := ⟨w.heap.size, 1, none⟩) (by first | (with_reducible assumption) | (go_size; done) | (simp; omega))).trans (by first | (with_reducible assumption) | (go_keep; done) | (go_cell; done) | (go_simp; done) | (simp [*]; done)); have q2 : w1.cell? ⟨w.heap.size, 2, none⟩ = some (.int .i64 (c)) := (hb0.cell (p := ⟨w.heap.size, 2, none⟩) (by first | (with_reducible assumption) | (go_size; done) | (simp; omega))).trans (by first | (with_reducible assumption) | (go_keep; done) | (go_cell; done) | (go_simp; done) | (simp [*]; done)); have q3 : w1.cell? ⟨w.heap.size, 3, none⟩ = some (.int .i64 (d)) := (hb0.cell (p := ⟨w.heap.size, 3, none⟩) (by first | (with_reducible assumption) | (go_size; done) | (simp; omega))).trans (by first | (with_reducible assumption) | (go_keep; done) | (go_cell; done) | (go_simp; done) | (simp [*]; done)); have q4 : w1.cell? ⟨w.heap.size + 1, 0, none⟩ = some (.int .i64 (x)) := (hb0.cell (p := ⟨w.heap.size + 1, 0, none⟩) (by first | (with_reducible assumption) | (go_size; done) | (simp; omega))).trans (by first | (with_reducible assumption) | (go_keep; done) | (go_cell; done) | (go_simp; done) | (simp [*]; done)); have q5 : w1.cell? ⟨w.heap.size + 1, 1, none⟩ = some (.int .i64 (y)) := (hb0.cell (p := ⟨w.heap.size + 1, 1, none⟩) (by first | (with_reducible assumption) | (go_size; done) | (simp; omega))).trans (by first | (with_reducible assumption) | (go_keep; done) | (go_cell; done) | (go_simp; done) | (simp [*]; done)); have hs0 : w.heap.size < w1.heap.size := Nat.lt_of_lt_of_le (by first | (with_reducible assumption) | (go_size; done) | (simp; omega)) hb0.size; have hs1 : w.heap.size + 1 < w1.heap.size := Nat.lt_of_lt_of_le (by first | (with_reducible assumption) | (go_size; done) | (simp; omega)) hb0.size; have hT : Below w.heap.size w w1 := belowTo (by first | (with_reducible assumption) | (go_grown; done)) hb0; have hTs := hT.size; clear hb0))
  all_goals (go_wp2; go_returns; exact ⟨rfl, by go_grown⟩)
set_option maxHeartbeats 2000000 in
theorem has_any (a b c d x y : Int) (w : World) (h1 : vecB a b = true) (h2 : vecB c d = true) (h3 : vecB x y = true) :
    Calls Tryd.prog 153 #[.agg #[.int .i64 (a), .int .i64 (b), .int .i64 (c), .int .i64 (d)], .agg #[.int .i64 (x), .int .i64 (y)]] w fun e w' => e = .returned (.bool (inB a b c d x y)) ∧ Below w.heap.size w w' := by
  rcases Int.lt_or_le (detZ x y c d) 0 with hp | hp
  · have hd : decide (0 ≤ detZ x y c d) = false := by simp; omega
    go_enter Tryd.func153, Tryd.ntmps153
    (go_wp2_with fail; go_call (parts_any a b c d x y _ h1 h2 h3) as e w1 ⟨rfl, hb1⟩); obtain ⟨hc1, hf1⟩ := bcell hb1; have hz1 := bsize hb1
    go_wp2
    go_returns
    exact ⟨ret_bool (by simp [inB, hd]), belowTo (by go_grown) hb1⟩
  · go_enter Tryd.func153, Tryd.ntmps153
    (go_wp2_with fail; go_call (parts_any a b c d x y _ h1 h2 h3) as e w1 ⟨rfl, hb1⟩); obtain ⟨hc1, hf1⟩ := bcell hb1; have hz1 := bsize hb1
    go_wp2
    go_returns
    exact ⟨ret_bool (by simp [inB, hp]), belowTo (by go_grown) hb1⟩
set_option maxHeartbeats 2000000 in
theorem l2Has_any (a b c d x y : Int) (w : World) (h1 : vecB a b = true) (h2 : vecB c d = true) (h3 : vecB x y = true) :
    Calls Tryd.prog 152 #[.agg #[.int .i64 (a), .int .i64 (b), .int .i64 (c), .int .i64 (d)], .agg #[.int .i64 (x), .int .i64 (y)]] w fun e w' => e = .returned (.bool (inB a b c d x y)) ∧ Below w.heap.size w w' := by
  rcases Int.lt_or_le (detZ a b x y) 0 with hp | hp
  · have hd : decide (0 ≤ detZ a b x y) = false := by simp; omega
    go_enter Tryd.func152, Tryd.ntmps152
    (go_wp2_with fail; go_call (l1Det_any a b x y _ h1 h3) as e w1 ⟨rfl, hb1⟩); obtain ⟨hc1, hf1⟩ := bcell hb1; have hz1 := bsize hb1
    go_wp2
    go_returns
    exact ⟨ret_bool (by simp [inB, hd]), belowTo (by go_grown) hb1⟩
  · go_enter Tryd.func152, Tryd.ntmps152
    (go_wp2_with fail; go_call (l1Det_any a b x y _ h1 h3) as e w1 ⟨rfl, hb1⟩); obtain ⟨hc1, hf1⟩ := bcell hb1; have hz1 := bsize hb1
    (go_wp2_with fail; go_call (l1Det_any x y c d _ h3 h2) as e w2 ⟨rfl, hb2⟩); replace hb1 := belowTo hb1 hb2; clear hb2 hc1 hf1 hz1; obtain ⟨hc1, hf1⟩ := bcell hb1; have hz1 := bsize hb1
    go_wp2
    go_returns
    exact ⟨ret_bool (by simp [inB, hp]), belowTo (by go_grown) hb1⟩
theorem cv_in {a b c d x y : Int} (h : cvOk a b c d x y = true) : coneB a b c d = true ∧ vecB x y = true := by simpa [cvOk] using h
/-! ConeParts -/
theorem has_in {a b c d x y : Int} (h : hasOk a b c d x y = true) : cvOk a b c d x y = true ∧ inB a b c d x y = true := by simpa [hasOk] using h
end Go.Proofs.YtcieihbknfeddabDoor

/- Fractions: the model's loop; FractionOf, both sides. -/
namespace Go.Proofs.YtcieihbknfeddabDoor
open Go.RowKit

theorem Ints.empty (w : World) : Ints (w.alloc (.cells #[] 3)) w.heap.size (.slice (some ⟨w.heap.size, 0, none⟩) 0 0) [] :=
  World.ownsRow_made w #[] 0 (Nat.le_refl _) (by simp [maxLen]) rfl
/-! FractionOf -/
def gateL (b : Bool) (l : List Int) : List Int := if b then l else []
def fractOk (n q : Int) : Bool := decide (1 ≤ q) && (decide (q < n) && (decide (n ≤ 10000) && (gcdZ n q == 1)))
theorem fract_in {n q : Int} (h : fractOk n q = true) : 1 ≤ q ∧ q < n ∧ n ≤ 10000 ∧ gcdZ n q = 1 := by simpa [fractOk] using h
theorem fract_out {n q : Int} (h : fractOk n q = false) : q < 1 ∨ (1 ≤ q ∧ n ≤ q) ∨ (1 ≤ q ∧ q < n ∧ 10000 < n) ∨ (1 ≤ q ∧ q < n ∧ n ≤ 10000 ∧ gcdZ n q ≠ 1) := by
  by_cases h1 : 1 ≤ q <;> by_cases h2 : q < n <;> by_cases h3 : n ≤ 10000 <;> simp [fractOk, h1, h2, h3] at h ⊢ <;> omega
def FracGives (w : World) (n q : Int) (e : Ending) (w' : World) : Prop := GivesIntsOk w (gateL (fractOk n q) (fracZ n q)) (fractOk n q) e w'
theorem frac_none {w w' : World} {n q : Int} {v : Value} {e : Ending} (h : fractOk n q = false) (he : e = .returned (.tuple #[v, .bool false])) (hI : Ints w' w.heap.size v []) (hB : Below w.heap.size w w') : FracGives w n q e w' := by
  unfold FracGives
  rw [h]
  exact ⟨v, he, hI, hB⟩
end Go.Proofs.YtcieihbknfeddabDoor

/- Chapter 2: the kind and the fraction of a cone: both sides. -/
namespace Go.Proofs.YtcieihbknfeddabDoor
open Go.RowKit

theorem mul_bd2 {q a : Int} (hq : 0 ≤ q ∧ q ≤ 2000000) (ha : -1000 ≤ a ∧ a ≤ 1000) : -2000000000 ≤ q * a ∧ q * a ≤ 2000000000 := by
  have h : (q * a).natAbs ≤ 2000000000 := by
    rw [Int.natAbs_mul]
    have := Nat.mul_le_mul (show q.natAbs ≤ 2000000 by omega) (show a.natAbs ≤ 1000 by omega)
    omega
  omega
end Go.Proofs.YtcieihbknfeddabDoor

/- Chapter 2: the fraction of a cone: both sides. -/
namespace Go.Proofs.YtcieihbknfeddabDoor
open Go.RowKit

theorem fracC_len {a b c d : Int} (h : coneB a b c d = true) : (fracC a b c d).length ≤ 2000000 := by
  obtain ⟨h1, _, h2, _, _⟩ := cone_in h
  have := frac_len (detZ a b c d) (kindC a b c d)
  have := det_sz h1 h2
  have := kindC_rng h
  unfold fracC
  omega
end Go.Proofs.YtcieihbknfeddabDoor
