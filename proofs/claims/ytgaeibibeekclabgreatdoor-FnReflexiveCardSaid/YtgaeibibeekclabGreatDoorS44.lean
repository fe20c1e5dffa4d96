import Derived.Test.YtgaeibibeekclabGreatDoorProg
import Derived.Test.YtgaeibibeekclabGreatDoorS01
import Derived.Test.YtgaeibibeekclabGreatDoorS03
import Derived.Test.YtgaeibibeekclabGreatDoorS43
import Derived.WalkKit
import Derived.LaidEql
import Derived.Stop.Asserts
import Derived.RowKitTokens
import Derived.Handy
import Derived.WalkSpells
import Derived.WalkLawsBesides
import Derived.Deep.QuietTactic
import Derived.BigQuiet
import Derived.Lib.Hide
import Derived.Deep.RegionHeld3
import Derived.Deep.DeepCutAuto
namespace Go.Proofs.YtgaeibibeekclabGreatDoor
open Go.RowKit
set_option maxHeartbeats 1000000 in
theorem matDet_any (a b c d : Int) (w : World) (ha : szB a = true) (hb : szB b = true) (hc : szB c = true) (hd : szB d = true) :
    Calls Tryz.prog 182 #[.agg #[.int .i64 (a), .int .i64 (b), .int .i64 (c), .int .i64 (d)]] w fun e w' => e = .returned (.int .i64 (detM a b c d)) ∧ Below w.heap.size w w' := by
  obtain ⟨⟨_, _⟩, _, _⟩ := det_bd ha hb hc hd
  clear ha hb hc hd
  go_enter Tryz.func182, Tryz.ntmps182
  go_wp2
  go_returns
  exact ⟨rfl, by go_grown⟩
set_option maxHeartbeats 2000000 in
theorem matCheck_in (a b c d : Int) (w : World) (h : matB a b c d = true) :
    Calls Tryz.prog 181 #[.agg #[.int .i64 (a), .int .i64 (b), .int .i64 (c), .int .i64 (d)]] w fun e w' => e = .returned .nilIface ∧ Below w.heap.size w w' := by
  obtain ⟨⟨ha, hb, hc, hd⟩, hk⟩ := mat_in h
  clear h
  rcases det_in hk with ⟨q1, q2⟩ | ⟨q1, q2, q3, q4⟩
  all_goals
    clear hk
    go_enter Tryz.func181, Tryz.ntmps181
    go_wp2_with (go_at_call 183; refine (inSize_any _ _).mono ?_; rintro e w' ⟨rfl, rfl⟩)
    go_call (matDet_any a b c d _ ha hb hc hd) as e w1 ⟨rfl, hb1⟩
    go_wp2
    go_returns
    exact ⟨rfl, belowTo (by go_grown) hb1⟩
set_option maxHeartbeats 2000000 in
theorem matCheck_out (a b c d : Int) (w : World) (h : matB a b c d = false) :
    Calls Tryz.prog 181 #[.agg #[.int .i64 (a), .int .i64 (b), .int .i64 (c), .int .i64 (d)]] w fun e w' => e = .returned (.iface 81 (.agg #[.string ⟨#[109, 97, 116, 114, 105, 120]⟩])) ∧ Below w.heap.size w w' := by
  rcases mat_out h with hs | ⟨⟨ha, hb, hc, hd⟩, hk⟩
  · clear h
    rcases sz4_out hs with ha | ⟨ha, hb⟩ | ⟨ha, hb, hc⟩ | ⟨ha, hb, hc, hd⟩
    all_goals
      clear hs
      go_enter Tryz.func181, Tryz.ntmps181
      go_wp2_with (go_at_call 183; refine (inSize_any _ _).mono ?_; rintro e w' ⟨rfl, rfl⟩)
      go_returns
      exact ⟨rfl, by go_grown⟩
  · clear h
    obtain ⟨q1, q2, q3, q4⟩ := det_out hk
    clear hk
    go_enter Tryz.func181, Tryz.ntmps181
    go_wp2_with (go_at_call 183; refine (inSize_any _ _).mono ?_; rintro e w' ⟨rfl, rfl⟩)
    go_call (matDet_any a b c d _ ha hb hc hd) as e w1 ⟨rfl, hb1⟩
    go_wp2
    go_returns
    exact ⟨rfl, belowTo (by go_grown) hb1⟩
end Go.Proofs.YtgaeibibeekclabGreatDoor
namespace Go.Proofs.YtgaeibibeekclabGreatDoor
open Go.RowKit
theorem move_bd {a b x y : Int} (ha : szB a = true) (hb : szB b = true) (hx : szB x = true) (hy : szB y = true) : (-1000000 ≤ a * x ∧ a * x ≤ 1000000) ∧ (-1000000 ≤ b * y ∧ b * y ≤ 1000000) :=
  ⟨mul_bd (szB_true ha) (szB_true hx), mul_bd (szB_true hb) (szB_true hy)⟩
set_option maxHeartbeats 1000000 in
theorem move_any (a b c d x y : Int) (w : World) (ha : szB a = true) (hb : szB b = true) (hc : szB c = true) (hd : szB d = true) (hx : szB x = true) (hy : szB y = true) :
    Calls Tryz.prog 43 #[.agg #[.int .i64 (a), .int .i64 (b), .int .i64 (c), .int .i64 (d)], .agg #[.int .i64 (x), .int .i64 (y)]] w fun e w' => e = .returned (.agg #[.int .i64 (moveX a b x y), .int .i64 (moveX c d x y)]) ∧ Below w.heap.size w w' := by
  obtain ⟨⟨_, _⟩, _, _⟩ := move_bd ha hb hx hy
  obtain ⟨⟨_, _⟩, _, _⟩ := move_bd hc hd hx hy
  clear ha hb hc hd hx hy
  go_enter Tryz.func43, Tryz.ntmps43
  go_wp2
  go_returns
  exact ⟨rfl, by go_grown⟩
end Go.Proofs.YtgaeibibeekclabGreatDoor
