import Derived.Test.YtgaeibibeekclabGreatDoorProg
import Derived.Test.YtgaeibibeekclabGreatDoorS01
import Derived.Test.YtgaeibibeekclabGreatDoorS03
import Derived.Test.YtgaeibibeekclabGreatDoorS28
import Derived.WalkKit
import Derived.LaidEql
import Derived.Stop.Asserts
import Derived.RowKitTokens
import Derived.Handy
import Derived.WalkSpells
import Derived.WalkLawsBesides
import Derived.Deep.QuietTactic
import Derived.BigQuiet
import Derived.Lib.Hide
import Derived.Deep.RegionHeld3
import Derived.Deep.DeepCutAuto
namespace Go.Proofs.YtgaeibibeekclabGreatDoor
open Go.RowKit
set_option maxHeartbeats 1000000 in
theorem checkAll_vv_out (x1 y1 x2 y2 : Int) (b : Nat) (w : World) (h : twoOk x1 y1 x2 y2 = false)
    (c0 : w.cell? ⟨b, 0, none⟩ = some (.iface 55 (.agg #[.int .i64 (x1), .int .i64 (y1)]))) (c1 : w.cell? ⟨b, 1, none⟩ = some (.iface 55 (.agg #[.int .i64 (x2), .int .i64 (y2)]))) (hb : b < w.heap.size) :
    Calls Tryz.prog 41 #[.slice (some ⟨b, 0, none⟩) 2 2] w fun e w' => e = .returned (.iface 81 (.agg #[.string ⟨#[118, 101, 99, 116, 111, 114]⟩])) ∧ Below w.heap.size w w' := by
  unfold twoOk at h
  cases h1 : vecB x1 y1
  · clear h
    go_enter Tryz.func41, Tryz.ntmps41
    go_wp2
    refine wp_loop_rounds 3 ?_
    rw [rounds_succ]
    go_wp2_with fail
    refine (check_out x1 y1 _ h1).mono ?_
    rintro e w1 ⟨rfl, hb1⟩
    clear c0 c1
    go_wp2
    go_returns
    exact ⟨rfl, hb1⟩
  · have h2 : vecB x2 y2 = false := by simpa [h1] using h
    clear h
    go_enter Tryz.func41, Tryz.ntmps41
    go_wp2
    refine wp_loop_rounds 3 ?_
    rw [rounds_succ]
    go_wp2_with fail
    refine (check_in x1 y1 _ h1).mono ?_
    rintro e w1 ⟨rfl, hb1⟩
    have c1' : w1.cell? ⟨b, 1, none⟩ = some (.iface 55 (.agg #[.int .i64 (x2), .int .i64 (y2)])) := (hb1.cell (p := ⟨b, 1, none⟩) hb).trans c1
    clear c0 c1
    go_wp2_with fail
    rw [rounds_succ]
    go_wp2_with fail
    refine (check_out x2 y2 _ h2).mono ?_
    rintro e w2 ⟨rfl, hb2⟩
    clear c1'
    go_wp2
    go_returns
    exact ⟨rfl, belowTo hb1 hb2⟩
end Go.Proofs.YtgaeibibeekclabGreatDoor
namespace Go.Proofs.YtgaeibibeekclabGreatDoor
open Go.RowKit
set_option maxHeartbeats 1000000 in
theorem times_any (x y n : Int) (w : World) (h1 : vecB x y = true) (h2 : szB n = true) :
    Calls Tryz.prog 89 #[.agg #[.int .i64 (x), .int .i64 (y)], .int .i64 n] w fun e w' => e = .returned (.agg #[.int .i64 (x * n), .int .i64 (y * n)]) ∧ Below w.heap.size w w' := by
  obtain ⟨hx, hy⟩ := szs h1
  have hn := szB_true h2
  obtain ⟨_, _⟩ := mul_bd hx hn
  obtain ⟨_, _⟩ := mul_bd hy hn
  clear h1 h2 hx hy hn
  go_enter Tryz.func89, Tryz.ntmps89
  go_wp2
  go_returns
  exact ⟨rfl, by go_grown⟩
end Go.Proofs.YtgaeibibeekclabGreatDoor
