/- SurfaceKind: both sides, the walk. -/
import Derived.Test.YtnhanbaaclkjaaaB3
import Derived.Test.YtnhanbaaclkjaaaB2
import Derived.Test.YtnhanbaaclkjaaaB5
namespace Go.Proofs.Ytnhanbaaclkjaaa
open Go.RowKit

def kinL (k : Int) : List (Int × Int) := [(1, 0), (0, 1), (-1, k), (0, -1)]
def kinB (k : Int) : Bool := decide (0 ≤ k) && decide (k ≤ 100)
def kinR (k : Int) : List (Int × Int) := if kinB k then kinL k else []
theorem Vecs.kin (w : World) (k : Int) : Vecs (w.alloc (.cells #[.int .i64 1, .int .i64 0, .int .i64 0, .int .i64 1, .int .i64 (-1), .int .i64 k, .int .i64 0, .int .i64 (-1)] 38)) w.heap.size (.slice (some ⟨w.heap.size, 0, none⟩) 4 4) (kinL k) :=
  ⟨rfl, .inr ⟨w.heap.size, 4, #[.int .i64 1, .int .i64 0, .int .i64 0, .int .i64 1, .int .i64 (-1), .int .i64 k, .int .i64 0, .int .i64 (-1)], rfl, Nat.le_refl _, heap_alloc_new w _, Nat.le_refl _, by decide, rfl, rfl⟩⟩
theorem Vecs.none (w : World) : Vecs (w.alloc (.cells #[] 38)) w.heap.size (.slice (some ⟨w.heap.size, 0, none⟩) 0 0) [] :=
  World.ownsRow_made w #[] 0 (Nat.le_refl _) (by simp [maxLen]) rfl
set_option maxHeartbeats 2000000 in
theorem specSurfaceKind_any (k : Int) (w : World) :
    Calls Try.prog 11 #[.int .i64 k] w (GivesVecsOk w (kinR k) (kinB k)) := by
  have HL := Lib.hid (fun w' => l6In_any k 0 100 w')
  have HV := Lib.hid (fun w' => Vecs.kin w' k)
  have HN := Lib.hid (fun w' => Vecs.none w')
  have hk : (decide (0 ≤ k) && decide (k ≤ 100)) = kinB k := rfl
  have hR : kinR k = if kinB k then kinL k else [] := rfl
  rw [hk] at HL
  rw [hR]
  clear hk hR
  cases hK : kinB k
  · rw [hK] at HL
    clear hK HV
    go_enter Try.func11, Try.ntmps11
    go_wp2_with fail
    refine Calls.mono (HL.out _) ?_
    rintro e w1 ⟨rfl, rfl⟩
    go_wp2
    go_returns
    exact ⟨_, rfl, HN.out _, by go_grown⟩
  · rw [hK] at HL
    clear hK HN
    go_enter Try.func11, Try.ntmps11
    go_wp2_with fail
    refine Calls.mono (HL.out _) ?_
    rintro e w1 ⟨rfl, rfl⟩
    go_wp2
    go_returns
    exact ⟨_, rfl, HV.out _, by go_grown⟩
set_option maxHeartbeats 2000000 in
theorem surfaceKind_any (k : Int) (w : World) :
    Calls Try.prog 12 #[.int .i64 k] w (GivesVecsOk w (kinR k) (kinB k)) := by
  have HV := Lib.hid (fun w' => Vecs.kin w' k)
  have hR : kinR k = if kinB k then kinL k else [] := rfl
  rw [hR]
  clear hR
  by_cases h0 : k < 0
  · have hK : kinB k = false := by unfold kinB; simp; omega
    rw [hK]
    clear hK HV
    go_enter Try.func12, Try.ntmps12
    go_wp2
    go_returns
    exact ⟨_, rfl, Vecs.nil _ _, by go_grown⟩
  · by_cases h1 : 100 < k
    · have hK : kinB k = false := by unfold kinB; simp; omega
      rw [hK]
      clear hK HV
      go_enter Try.func12, Try.ntmps12
      go_wp2
      go_returns
      exact ⟨_, rfl, Vecs.nil _ _, by go_grown⟩
    · have hK : kinB k = true := by unfold kinB; simp; omega
      rw [hK]
      clear hK
      go_enter Try.func12, Try.ntmps12
      go_wp2
      go_returns
      exact ⟨_, rfl, HV.out _, by go_grown⟩
set_option maxHeartbeats 4000000 in
theorem exactSurfaceKind_any (k : Int) (w : World) :
    Calls Try.prog 4 #[.int .i64 k] w fun e w' => e = .returned (.bool true) ∧ Below w.heap.size w w' := by
  have hlen : (kinR k).length ≤ 576460752303423488 := by
    unfold kinR kinL
    split <;> simp
  have SP := Lib.hid (fun w' => specSurfaceKind_any k w')
  have IM := Lib.hid (fun w' => surfaceKind_any k w')
  have HE := Lib.hid (fun v1 v2 b1 b2 w' h1 h2 => eqVecS_same v1 v2 b1 b2 (kinR k) w' h1 h2)
  have HQ := Lib.hid (fun v' b w' h' => markVecS_own v' b (kinR k) w' h' hlen)
  have HO := Lib.hid (fun v' b w' h' => heldVecS_own v' b (kinR k).length w' h' hlen)
  have hz2 : (0 : Int) ≤ ((1 + (kinR k).length * 2 : Nat) : Int) := by omega
  unfold VMarkedV at HQ
  generalize ((1 + (kinR k).length * 2 : Nat) : Int) = z2 at hz2 HQ HO
  generalize marks 1 ((kinR k).length * 2) = M2 at HQ HO
  generalize kinR k = L at *
  generalize kinB k = K at *
  generalize L.length = m at *
  clear hlen
  go_enter Try.func4, Try.ntmps4
  go_wp2_with fail
  refine Calls.mono (SP.out _) ?_
  rintro e w1 ⟨v0, rfl, I0, hb1⟩
  have B0 := Lib.hid (fun k hk => (I0.block k hk).2)
  replace I0 := Lib.hid I0
  have hA := hb1
  clear hb1
  have hwg := hA.size
  go_wp2_with fail
  refine Calls.mono (IM.out _) ?_
  rintro e w2 ⟨vg, rfl, IG, hb2⟩
  have BG := Lib.hid (fun k hk => (IG.block k hk))
  have hs2 := hb2.size
  replace I0 := Lib.hid (I0.out.below hb2)
  replace IG := Lib.hid IG
  replace hA := belowTo hA hb2
  clear hb2
  go_wp2_with fail
  refine Calls.mono (HE.out _ _ _ _ _ IG.out I0.out) ?_
  rintro e w3 ⟨rfl, hb3⟩
  have hs3 := hb3.size
  replace I0 := Lib.hid (I0.out.below hb3)
  replace IG := Lib.hid (IG.out.below hb3)
  replace hA := belowTo hA hb3
  clear hb3
  go_wp2_with fail
  refine Calls.mono (HQ.out vg _ _ IG.out) ?_
  rintro e w4 ⟨rfl, MG, hG⟩
  have hb4 := grown_below (b := w1.heap.size) hG (by omega) (fun k hk => (BG.out k hk).1)
  replace I0 := Lib.hid (I0.out.far hG (fun k hk e => by have := B0.out k hk; have := (BG.out k e).1; omega))
  replace MG := Lib.hid MG
  replace hA := hA.trans (hb4.mono hwg)
  clear hb4 hG IG B0 BG hs2 hs3 hwg
  go_wp2_with fail
  refine Calls.mono (HO.out _ _ _ MG.out) ?_
  rintro e wq ⟨rfl, rfl⟩
  go_wp2_with fail
  refine Calls.mono (IM.out _) ?_
  rintro e w5 ⟨v5, rfl, I5, hb5⟩
  replace I0 := Lib.hid (I0.out.below hb5)
  replace MG := Lib.hid (MG.out.below hb5)
  replace I5 := Lib.hid I5
  replace hA := belowTo hA hb5
  clear hb5
  go_wp2_with fail
  refine Calls.mono (HE.out _ _ _ _ _ I5.out I0.out) ?_
  rintro e w6 ⟨rfl, hb6⟩
  replace MG := Lib.hid (MG.out.below hb6)
  replace hA := belowTo hA hb6
  clear hb6 I0 I5
  go_wp2_with fail
  refine Calls.mono (HO.out _ _ _ MG.out) ?_
  rintro e wr ⟨rfl, rfl⟩
  go_wp2
  go_returns
  exact ⟨rfl, hA⟩
end Go.Proofs.Ytnhanbaaclkjaaa
