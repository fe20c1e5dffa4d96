import Derived.Test.YtncjidkgbfilkabDoorMc
import Derived.Test.YtncjidkgbfilkabDoorTd
namespace Go.Proofs.YtncjidkgbfilkabDoor
open Go.RowKit

set_option maxHeartbeats 1000000 in
theorem matDet_any (a b c d : Int) (w : World) (ha : szB a = true) (hb : szB b = true) (hc : szB c = true) (hd : szB d = true) :
    Calls Tryd.prog 71 #[.agg #[.int .i64 (a), .int .i64 (b), .int .i64 (c), .int .i64 (d)]] w fun e w' => e = .returned (.int .i64 (detM a b c d)) ∧ Below w.heap.size w w' := by
  obtain ⟨⟨_, _⟩, _, _⟩ := det_bd ha hb hc hd
  clear ha hb hc hd
  go_enter Tryd.func71, Tryd.ntmps71
  go_wp2
  go_returns
  exact ⟨rfl, by go_grown⟩
set_option maxHeartbeats 2000000 in
theorem matCheck_in (a b c d : Int) (w : World) (h : matB a b c d = true) :
    Calls Tryd.prog 51 #[.agg #[.int .i64 (a), .int .i64 (b), .int .i64 (c), .int .i64 (d)]] w fun e w' => e = .returned .nilIface ∧ Below w.heap.size w w' := by
  obtain ⟨⟨ha, hb, hc, hd⟩, hk⟩ := mat_in h
  clear h
  rcases det_in hk with ⟨q1, q2⟩ | ⟨q1, q2, q3, q4⟩
  all_goals
    clear hk
    go_enter Tryd.func51, Tryd.ntmps51
    go_wp2_with (go_at_call 70; refine (inSize_any _ _).mono ?_; rintro e w' ⟨rfl, rfl⟩)
    go_call (matDet_any a b c d _ ha hb hc hd) as e w1 ⟨rfl, hb1⟩
    go_wp2
    go_returns
    exact ⟨rfl, belowTo (by go_grown) hb1⟩
set_option maxHeartbeats 2000000 in
theorem matCheck_out (a b c d : Int) (w : World) (h : matB a b c d = false) :
    Calls Tryd.prog 51 #[.agg #[.int .i64 (a), .int .i64 (b), .int .i64 (c), .int .i64 (d)]] w fun e w' => e = .returned (.iface 86 (.agg #[.string ⟨#[109, 97, 116, 114, 105, 120]⟩])) ∧ Below w.heap.size w w' := by
  rcases mat_out h with hs | ⟨⟨ha, hb, hc, hd⟩, hk⟩
  · clear h
    rcases sz4_out hs with ha | ⟨ha, hb⟩ | ⟨ha, hb, hc⟩ | ⟨ha, hb, hc, hd⟩
    all_goals
      clear hs
      go_enter Tryd.func51, Tryd.ntmps51
      go_wp2_with (go_at_call 70; refine (inSize_any _ _).mono ?_; rintro e w' ⟨rfl, rfl⟩)
      go_returns
      exact ⟨rfl, by go_grown⟩
  · clear h
    obtain ⟨q1, q2, q3, q4⟩ := det_out hk
    clear hk
    go_enter Tryd.func51, Tryd.ntmps51
    go_wp2_with (go_at_call 70; refine (inSize_any _ _).mono ?_; rintro e w' ⟨rfl, rfl⟩)
    go_call (matDet_any a b c d _ ha hb hc hd) as e w1 ⟨rfl, hb1⟩
    go_wp2
    go_returns
    exact ⟨rfl, belowTo (by go_grown) hb1⟩
set_option maxHeartbeats 4000000 in
theorem specMatIn_any (a b c d : Int) (w : World) :
    Calls Tryd.prog 53 #[.agg #[.int .i64 (a), .int .i64 (b), .int .i64 (c), .int .i64 (d)]] w fun e w' => e = .returned (.bool (matB a b c d)) ∧ Below w.heap.size w w' := by
  cases h : matB a b c d
  · rcases mat_out h with hs | ⟨⟨ha, hb, hc, hd⟩, hk⟩
    · clear h
      rcases sz4_out hs with ha | ⟨ha, hb⟩ | ⟨ha, hb, hc⟩ | ⟨ha, hb, hc, hd⟩
      all_goals
        clear hs
        go_enter Tryd.func53, Tryd.ntmps53
        go_wp2_with (go_at_call 72; refine (l1Size_any _ _).mono ?_; rintro e w' ⟨rfl, rfl⟩)
        go_returns
        exact ⟨rfl, by go_grown⟩
    · clear h
      obtain ⟨q1, q2, q3, q4⟩ := det_out hk
      obtain ⟨⟨_, _⟩, _, _⟩ := det_bd ha hb hc hd
      unfold detM at q1 q2 q3 q4
      clear hk
      go_enter Tryd.func53, Tryd.ntmps53
      go_wp2_with (go_at_call 72; refine (l1Size_any _ _).mono ?_; rintro e w' ⟨rfl, rfl⟩)
      go_returns
      exact ⟨rfl, by go_grown⟩
  · obtain ⟨⟨ha, hb, hc, hd⟩, hk⟩ := mat_in h
    clear h
    obtain ⟨⟨_, _⟩, _, _⟩ := det_bd ha hb hc hd
    rcases det_in hk with ⟨q1, q2⟩ | ⟨q1, q2, q3, q4⟩
    all_goals
      unfold detM at *
      clear hk
      go_enter Tryd.func53, Tryd.ntmps53
      go_wp2_with (go_at_call 72; refine (l1Size_any _ _).mono ?_; rintro e w' ⟨rfl, rfl⟩)
      go_returns
      exact ⟨rfl, by go_grown⟩
end Go.Proofs.YtncjidkgbfilkabDoor
