/- SurfaceKind: both sides, the walk. -/
import Derived.Test.YtdlofnkimikaiaaGreatDoorB3
import Derived.Test.YtdlofnkimikaiaaGreatDoorB2
import Derived.Test.YtdlofnkimikaiaaGreatDoorB5
namespace Go.Proofs.YtdlofnkimikaiaaGreatDoor
open Go.RowKit

def kinL (k : Int) : List (Int × Int) := [(1, 0), (0, 1), (-1, k), (0, -1)]
def kinB (k : Int) : Bool := decide (0 ≤ k) && decide (k ≤ 100)
def kinR (k : Int) : List (Int × Int) := if kinB k then kinL k else []
theorem Vecs.kin (w : World) (k : Int) : Vecs (w.alloc (.cells #[.int .i64 1, .int .i64 0, .int .i64 0, .int .i64 1, .int .i64 (-1), .int .i64 k, .int .i64 0, .int .i64 (-1)] 60)) w.heap.size (.slice (some ⟨w.heap.size, 0, none⟩) 4 4) (kinL k) :=
  ⟨rfl, .inr ⟨w.heap.size, 4, #[.int .i64 1, .int .i64 0, .int .i64 0, .int .i64 1, .int .i64 (-1), .int .i64 k, .int .i64 0, .int .i64 (-1)], rfl, Nat.le_refl _, heap_alloc_new w _, Nat.le_refl _, by decide, rfl, rfl⟩⟩
theorem Vecs.none (w : World) : Vecs (w.alloc (.cells #[] 60)) w.heap.size (.slice (some ⟨w.heap.size, 0, none⟩) 0 0) [] :=
  World.ownsRow_made w #[] 0 (Nat.le_refl _) (by simp [maxLen]) rfl
set_option maxHeartbeats 2000000 in
theorem specSurfaceKind_any (k : Int) (w : World) :
    Calls Tryz.prog 39 #[.int .i64 k] w (GivesVecsOk w (kinR k) (kinB k)) := by
  have HL := Lib.hid (fun w' => l6In_any k 0 100 w')
  have HV := Lib.hid (fun w' => Vecs.kin w' k)
  have HN := Lib.hid (fun w' => Vecs.none w')
  have hk : (decide (0 ≤ k) && decide (k ≤ 100)) = kinB k := rfl
  have hR : kinR k = if kinB k then kinL k else [] := rfl
  rw [hk] at HL
  rw [hR]
  clear hk hR
  cases hK : kinB k
  · rw [hK] at HL
    clear hK HV
    go_enter Tryz.func39, Tryz.ntmps39
    go_wp2_with fail
    refine Calls.mono (HL.out _) ?_
    rintro e w1 ⟨rfl, rfl⟩
    go_wp2
    go_returns
    exact ⟨_, rfl, HN.out _, by go_grown⟩
  · rw [hK] at HL
    clear hK HN
    go_enter Tryz.func39, Tryz.ntmps39
    go_wp2_with fail
    refine Calls.mono (HL.out _) ?_
    rintro e w1 ⟨rfl, rfl⟩
    go_wp2
    go_returns
    exact ⟨_, rfl, HV.out _, by go_grown⟩
set_option maxHeartbeats 2000000 in
theorem surfaceKind_any (k : Int) (w : World) :
    Calls Tryz.prog 9 #[.int .i64 k] w (GivesVecsOk w (kinR k) (kinB k)) := by
  have HV := Lib.hid (fun w' => Vecs.kin w' k)
  have hR : kinR k = if kinB k then kinL k else [] := rfl
  rw [hR]
  clear hR
  by_cases h0 : k < 0
  · have hK : kinB k = false := by unfold kinB; simp; omega
    rw [hK]
    clear hK HV
    go_enter Tryz.func9, Tryz.ntmps9
    go_wp2
    go_returns
    exact ⟨_, rfl, Vecs.nil _ _, by go_grown⟩
  · by_cases h1 : 100 < k
    · have hK : kinB k = false := by unfold kinB; simp; omega
      rw [hK]
      clear hK HV
      go_enter Tryz.func9, Tryz.ntmps9
      go_wp2
      go_returns
      exact ⟨_, rfl, Vecs.nil _ _, by go_grown⟩
    · have hK : kinB k = true := by unfold kinB; simp; omega
      rw [hK]
      clear hK
      go_enter Tryz.func9, Tryz.ntmps9
      go_wp2
      go_returns
      exact ⟨_, rfl, HV.out _, by go_grown⟩
end Go.Proofs.YtdlofnkimikaiaaGreatDoor
