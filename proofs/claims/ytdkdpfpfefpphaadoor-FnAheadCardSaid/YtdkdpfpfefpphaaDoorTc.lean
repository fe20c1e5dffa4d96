import Derived.Test.YtdkdpfpfefpphaaDoorTa
import Derived.Test.YtdkdpfpfefpphaaDoorMa
namespace Go.Proofs.YtdkdpfpfefpphaaDoor
open Go.RowKit

/-! checkAll over two vectors -/
set_option maxHeartbeats 1000000 in
theorem checkAll_vv_in (x1 y1 x2 y2 : Int) (b : Nat) (w : World) (h1 : vecB x1 y1 = true) (h2 : vecB x2 y2 = true)
    (c0 : w.cell? ⟨b, 0, none⟩ = some (.iface 24 (.agg #[.int .i64 (x1), .int .i64 (y1)]))) (c1 : w.cell? ⟨b, 1, none⟩ = some (.iface 24 (.agg #[.int .i64 (x2), .int .i64 (y2)]))) (hb : b < w.heap.size) :
    Calls Tryd.prog 44 #[.slice (some ⟨b, 0, none⟩) 2 2] w fun e w' => e = .returned .nilIface ∧ Below w.heap.size w w' := by
  go_enter Tryd.func44, Tryd.ntmps44
  go_wp2
  refine wp_loop_rounds 3 ?_
  rw [rounds_succ]
  go_wp2_with fail
  refine (check_in x1 y1 _ h1).mono ?_
  rintro e w1 ⟨rfl, hb1⟩
  have c1' : w1.cell? ⟨b, 1, none⟩ = some (.iface 24 (.agg #[.int .i64 (x2), .int .i64 (y2)])) := (hb1.cell (p := ⟨b, 1, none⟩) hb).trans c1
  clear c0 c1
  go_wp2_with fail
  rw [rounds_succ]
  go_wp2_with fail
  refine (check_in x2 y2 _ h2).mono ?_
  rintro e w2 ⟨rfl, hb2⟩
  clear c1'
  go_wp2_with fail
  rw [rounds_succ]
  go_wp2
  go_returns
  exact ⟨rfl, belowTo hb1 hb2⟩
set_option maxHeartbeats 1000000 in
theorem checkAll_vv_out (x1 y1 x2 y2 : Int) (b : Nat) (w : World) (h : twoOk x1 y1 x2 y2 = false)
    (c0 : w.cell? ⟨b, 0, none⟩ = some (.iface 24 (.agg #[.int .i64 (x1), .int .i64 (y1)]))) (c1 : w.cell? ⟨b, 1, none⟩ = some (.iface 24 (.agg #[.int .i64 (x2), .int .i64 (y2)]))) (hb : b < w.heap.size) :
    Calls Tryd.prog 44 #[.slice (some ⟨b, 0, none⟩) 2 2] w fun e w' => e = .returned (.iface 73 (.agg #[.string ⟨#[118, 101, 99, 116, 111, 114]⟩])) ∧ Below w.heap.size w w' := by
  unfold twoOk at h
  cases h1 : vecB x1 y1
  · clear h
    go_enter Tryd.func44, Tryd.ntmps44
    go_wp2
    refine wp_loop_rounds 3 ?_
    rw [rounds_succ]
    go_wp2_with fail
    refine (check_out x1 y1 _ h1).mono ?_
    rintro e w1 ⟨rfl, hb1⟩
    clear c0 c1
    go_wp2
    go_returns
    exact ⟨rfl, hb1⟩
  · have h2 : vecB x2 y2 = false := by simpa [h1] using h
    clear h
    go_enter Tryd.func44, Tryd.ntmps44
    go_wp2
    refine wp_loop_rounds 3 ?_
    rw [rounds_succ]
    go_wp2_with fail
    refine (check_in x1 y1 _ h1).mono ?_
    rintro e w1 ⟨rfl, hb1⟩
    have c1' : w1.cell? ⟨b, 1, none⟩ = some (.iface 24 (.agg #[.int .i64 (x2), .int .i64 (y2)])) := (hb1.cell (p := ⟨b, 1, none⟩) hb).trans c1
    clear c0 c1
    go_wp2_with fail
    rw [rounds_succ]
    go_wp2_with fail
    refine (check_out x2 y2 _ h2).mono ?_
    rintro e w2 ⟨rfl, hb2⟩
    clear c1'
    go_wp2
    go_returns
    exact ⟨rfl, belowTo hb1 hb2⟩

/-! made, l1Done -/
set_option maxHeartbeats 1000000 in
theorem madeVec_any (x y : Int) (w : World) (hg : EtOk w) :
    Calls Tryd.prog 54 #[.agg #[.int .i64 (x), .int .i64 (y)]] w fun e w' => e = .returned (.tuple #[.agg #[.int .i64 (gate (vecB x y) x), .int .i64 (gate (vecB x y) y)], .bool (vecB x y)]) ∧ Below w.heap.size w w' := by
  cases h : vecB x y
  · go_enter Tryd.func54, Tryd.ntmps54
    go_wp2_with fail
    refine (check_out x y _ h).mono ?_
    rintro e w1 ⟨rfl, hb1⟩
    obtain ⟨hc1, hf1⟩ := bcell hb1; have hz1 := bsize hb1
    go_wp2_with fail
    refine (none_hit _ _ (hg.below (belowTo (by go_grown) hb1))).mono ?_
    rintro e w2 ⟨rfl, hb2⟩
    replace hb1 := belowTo hb1 hb2; clear hb2 hc1 hf1 hz1; obtain ⟨hc1, hf1⟩ := bcell hb1; have hz1 := bsize hb1
    go_wp2
    have hB := belowTo (a := w) (by go_grown) hb1; have hS := hB.size; (refine bodyPost_ret (by simp [results, Tryd.results54, go_sem, bcs hb1]; try rfl) rfl ?_); clear hb1
    exact ⟨rfl, by go_grown⟩
  · go_enter Tryd.func54, Tryd.ntmps54
    go_wp2_with fail
    refine (check_in x y _ h).mono ?_
    rintro e w1 ⟨rfl, hb1⟩
    obtain ⟨hc1, hf1⟩ := bcell hb1; have hz1 := bsize hb1
    go_wp2_with fail
    refine (none_nil _).mono ?_
    rintro e w2 ⟨rfl, hb2⟩
    replace hb1 := belowTo hb1 hb2; clear hb2 hc1 hf1 hz1; obtain ⟨hc1, hf1⟩ := bcell hb1; have hz1 := bsize hb1
    go_wp2
    have hB := belowTo (a := w) (by go_grown) hb1; have hS := hB.size; (refine bodyPost_ret (by simp [results, Tryd.results54, go_sem, bcs hb1]; try rfl) rfl ?_); clear hb1
    exact ⟨rfl, by go_grown⟩
set_option maxHeartbeats 1000000 in
theorem l1Done_any (x y : Int) (w : World) :
    Calls Tryd.prog 53 #[.agg #[.int .i64 (x), .int .i64 (y)]] w fun e w' => e = .returned (.tuple #[.agg #[.int .i64 (gate (vecB x y) x), .int .i64 (gate (vecB x y) y)], .bool (vecB x y)]) ∧ Below w.heap.size w w' := by
  cases h : vecB x y
  all_goals
    go_enter Tryd.func53, Tryd.ntmps53
    go_wp2_with fail
    refine (specVecIn_any x y _).mono ?_
    rintro e w1 ⟨rfl, hb1⟩
    obtain ⟨hc1, hf1⟩ := bcell hb1; have hz1 := bsize hb1
    go_wp2
    have hB := belowTo (a := w) (by go_grown) hb1; have hS := hB.size; (refine bodyPost_ret (by simp [results, Tryd.results53, go_sem, bcs hb1]; try rfl) rfl ?_); clear hb1
    exact ⟨rfl, by go_grown⟩
end Go.Proofs.YtdkdpfpfefpphaaDoor
