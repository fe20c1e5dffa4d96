import Derived.Test.YtdkdpfpfefpphaaDoorTa
namespace Go.Proofs.YtdkdpfpfefpphaaDoor
open Go.RowKit
set_option maxHeartbeats 400000 in
theorem exactVecIn_any (x y : Int) (w : World) (hg : EtOk w) :
    Calls Tryd.prog 5 #[.agg #[.int .i64 (x), .int .i64 (y)]] w fun e w' => e = .returned (.bool true) ∧ Below w.heap.size w w' := by
  go_enter Tryd.func5, Tryd.ntmps5
  go_wp2_with fail
  refine (toVec_any x y _).mono ?_
  rintro e w1 ⟨rfl, hb1⟩
  obtain ⟨hc1, hf1⟩ := bcell hb1
  go_wp2_with fail
  refine (specVecIn_any x y _).mono ?_
  rintro e w2 ⟨rfl, hb2⟩
  replace hb1 := belowTo hb1 hb2; clear hb2 hc1 hf1; obtain ⟨hc1, hf1⟩ := bcell hb1
  go_wp2_with fail
  refine (toVec_any x y _).mono ?_
  rintro e w3 ⟨rfl, hb3⟩
  replace hb1 := belowTo hb1 hb3; clear hb3 hc1 hf1; obtain ⟨hc1, hf1⟩ := bcell hb1
  go_wp2_with fail
  have hB : Below w.heap.size w w3 := belowTo (by go_grown) hb1
  refine (vecIn_any x y _ (hg.below hB)).mono ?_
  rintro e w4 ⟨rfl, hb4⟩
  go_wp2
  go_returns
  exact ⟨rfl, belowTo hB hb4⟩
end Go.Proofs.YtdkdpfpfefpphaaDoor
