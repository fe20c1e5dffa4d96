import Derived.Test.YtncjidkgbfilkaaDoorTm
namespace Go.Proofs.YtncjidkgbfilkaaDoor
open Go.RowKit

/-! checkAll over a matrix and a vector -/
set_option maxHeartbeats 1000000 in
theorem checkAll_mv_in (a b c d x y : Int) (B : Nat) (w : World) (h1 : matB a b c d = true) (h2 : vecB x y = true)
    (c0 : w.cell? ⟨B, 0, none⟩ = some (.iface 48 (.agg #[.int .i64 (a), .int .i64 (b), .int .i64 (c), .int .i64 (d)]))) (c1 : w.cell? ⟨B, 1, none⟩ = some (.iface 27 (.agg #[.int .i64 (x), .int .i64 (y)]))) (hB : B < w.heap.size) :
    Calls Tryd.prog 41 #[.slice (some ⟨B, 0, none⟩) 2 2] w fun e w' => e = .returned .nilIface ∧ Below w.heap.size w w' := by
  go_enter Tryd.func41, Tryd.ntmps41
  go_wp2
  refine wp_loop_rounds 3 ?_
  rw [rounds_succ]
  go_wp2_with fail
  go_call (matCheck_in a b c d _ h1) as e w1 ⟨rfl, hb1⟩
  have c1' : w1.cell? ⟨B, 1, none⟩ = some (.iface 27 (.agg #[.int .i64 (x), .int .i64 (y)])) := (hb1.cell (p := ⟨B, 1, none⟩) hB).trans c1
  clear c0 c1
  go_wp2_with fail
  rw [rounds_succ]
  go_wp2_with fail
  go_call (check_in x y _ h2) as e w2 ⟨rfl, hb2⟩
  clear c1'
  go_wp2_with fail
  rw [rounds_succ]
  go_wp2
  go_returns
  exact ⟨rfl, belowTo hb1 hb2⟩
/-- this program's own error, of whichever kind -/
def IsNone (e : Ending) : Prop := ∃ s : ByteArray, e = .returned (.iface 74 (.agg #[.string s]))
set_option maxHeartbeats 1000000 in
theorem checkAll_mv_out (a b c d x y : Int) (B : Nat) (w : World) (h : mvOk a b c d x y = false)
    (c0 : w.cell? ⟨B, 0, none⟩ = some (.iface 48 (.agg #[.int .i64 (a), .int .i64 (b), .int .i64 (c), .int .i64 (d)]))) (c1 : w.cell? ⟨B, 1, none⟩ = some (.iface 27 (.agg #[.int .i64 (x), .int .i64 (y)]))) (hB : B < w.heap.size) :
    Calls Tryd.prog 41 #[.slice (some ⟨B, 0, none⟩) 2 2] w fun e w' => IsNone e ∧ Below w.heap.size w w' := by
  unfold mvOk at h
  cases h1 : matB a b c d
  · clear h
    go_enter Tryd.func41, Tryd.ntmps41
    go_wp2
    refine wp_loop_rounds 3 ?_
    rw [rounds_succ]
    go_wp2_with fail
    go_call (matCheck_out a b c d _ h1) as e w1 ⟨rfl, hb1⟩
    clear c0 c1
    go_wp2
    go_returns
    exact ⟨⟨_, rfl⟩, hb1⟩
  · have h2 : vecB x y = false := by simpa [h1] using h
    clear h
    go_enter Tryd.func41, Tryd.ntmps41
    go_wp2
    refine wp_loop_rounds 3 ?_
    rw [rounds_succ]
    go_wp2_with fail
    go_call (matCheck_in a b c d _ h1) as e w1 ⟨rfl, hb1⟩
    have c1' : w1.cell? ⟨B, 1, none⟩ = some (.iface 27 (.agg #[.int .i64 (x), .int .i64 (y)])) := (hb1.cell (p := ⟨B, 1, none⟩) hB).trans c1
    clear c0 c1
    go_wp2_with fail
    rw [rounds_succ]
    go_wp2_with fail
    go_call (check_out x y _ h2) as e w2 ⟨rfl, hb2⟩
    clear c1'
    go_wp2
    go_returns
    exact ⟨⟨_, rfl⟩, belowTo hb1 hb2⟩
/-! where a matrix moves a vector -/
theorem move_bd {a b x y : Int} (ha : szB a = true) (hb : szB b = true) (hx : szB x = true) (hy : szB y = true) : (-1000000 ≤ a * x ∧ a * x ≤ 1000000) ∧ (-1000000 ≤ b * y ∧ b * y ≤ 1000000) :=
  ⟨mul_bd (szB_true ha) (szB_true hx), mul_bd (szB_true hb) (szB_true hy)⟩
set_option maxHeartbeats 1000000 in
theorem move_any (a b c d x y : Int) (w : World) (ha : szB a = true) (hb : szB b = true) (hc : szB c = true) (hd : szB d = true) (hx : szB x = true) (hy : szB y = true) :
    Calls Tryd.prog 66 #[.agg #[.int .i64 (a), .int .i64 (b), .int .i64 (c), .int .i64 (d)], .agg #[.int .i64 (x), .int .i64 (y)]] w fun e w' => e = .returned (.agg #[.int .i64 (moveX a b x y), .int .i64 (moveX c d x y)]) ∧ Below w.heap.size w w' := by
  obtain ⟨⟨_, _⟩, _, _⟩ := move_bd ha hb hx hy
  obtain ⟨⟨_, _⟩, _, _⟩ := move_bd hc hd hx hy
  clear ha hb hc hd hx hy
  go_enter Tryd.func66, Tryd.ntmps66
  go_wp2
  go_returns
  exact ⟨rfl, by go_grown⟩
set_option maxHeartbeats 1000000 in
theorem l1Move_any (a b c d x y : Int) (w : World) (ha : szB a = true) (hb : szB b = true) (hc : szB c = true) (hd : szB d = true) (hx : szB x = true) (hy : szB y = true) :
    Calls Tryd.prog 50 #[.agg #[.int .i64 (a), .int .i64 (b), .int .i64 (c), .int .i64 (d)], .agg #[.int .i64 (x), .int .i64 (y)]] w fun e w' => e = .returned (.agg #[.int .i64 (moveX a b x y), .int .i64 (moveX c d x y)]) ∧ Below w.heap.size w w' := by
  obtain ⟨⟨_, _⟩, _, _⟩ := move_bd ha hb hx hy
  obtain ⟨⟨_, _⟩, _, _⟩ := move_bd hc hd hx hy
  clear ha hb hc hd hx hy
  go_enter Tryd.func50, Tryd.ntmps50
  go_wp2
  go_returns
  exact ⟨rfl, by go_grown⟩

end Go.Proofs.YtncjidkgbfilkaaDoor
