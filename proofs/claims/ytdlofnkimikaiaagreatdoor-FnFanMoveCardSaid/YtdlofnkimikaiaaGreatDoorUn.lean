/- The draw of a fan that is often not smooth and a matrix. -/
import Derived.Test.YtdlofnkimikaiaaGreatDoorUl
import Derived.Test.YtdlofnkimikaiaaGreatDoorJ1
namespace Go.Proofs.YtdlofnkimikaiaaGreatDoor
open Go.RowKit

def GivenFM (w : World) (e : Ending) (w' : World) : Prop :=
  ∃ (v : Value) (l : List V2) (x y z u : Int), e = .returned (.tuple #[v, .agg #[.int .i64 (x), .int .i64 (y), .int .i64 (z), .int .i64 (u)]]) ∧ ReadsVecs w' v l ∧ 2 ≤ l.length ∧ l.length ≤ 20 ∧ Below w.heap.size w w'
set_option maxHeartbeats 4000000 in
theorem drawFanMove_any (w : World) (a : Option Addr) (len cap : Nat) (h : Bytes w a len cap) :
    Calls Tryz.prog 10 #[.slice a len cap] w (GivenFM w) := by
  go_enter Tryz.func10, Tryz.ntmps10
  go_wp2_with fail
  refine Calls.mono (l6Open_any _ a len cap (h.below (by go_grown))) ?_
  rintro e w1 ⟨l1, c1, rfl, r1, hb1, hs1⟩
  rw [World.size_alloc] at r1 hs1
  have hA : Below w.heap.size w w1 := belowTo (by go_grown) hb1
  have e0 : w1.cell? ⟨w.heap.size, 0, none⟩ = some (.int .i64 0) := (hb1.cell (p := ⟨w.heap.size, 0, none⟩) (by simp)).trans (by simp)
  have f0 : w1.frozen? ⟨w.heap.size, 0, none⟩ = false := (hb1.frozen (p := ⟨w.heap.size, 0, none⟩) (by simp)).trans (by simp)
  have e1 : w1.cell? ⟨w.heap.size, 1, none⟩ = some (.int .i64 0) := (hb1.cell (p := ⟨w.heap.size, 1, none⟩) (by simp)).trans (by simp)
  have f1 : w1.frozen? ⟨w.heap.size, 1, none⟩ = false := (hb1.frozen (p := ⟨w.heap.size, 1, none⟩) (by simp)).trans (by simp)
  have e2 : w1.cell? ⟨w.heap.size, 2, none⟩ = some (.int .i64 0) := (hb1.cell (p := ⟨w.heap.size, 2, none⟩) (by simp)).trans (by simp)
  have f2 : w1.frozen? ⟨w.heap.size, 2, none⟩ = false := (hb1.frozen (p := ⟨w.heap.size, 2, none⟩) (by simp)).trans (by simp)
  have e3 : w1.cell? ⟨w.heap.size, 3, none⟩ = some (.int .i64 0) := (hb1.cell (p := ⟨w.heap.size, 3, none⟩) (by simp)).trans (by simp)
  have f3 : w1.frozen? ⟨w.heap.size, 3, none⟩ = false := (hb1.frozen (p := ⟨w.heap.size, 3, none⟩) (by simp)).trans (by simp)
  clear hb1 h
  go_wp2_with fail
  refine Calls.mono (l91Fan_any w1 (w.heap.size + 1) a l1 c1 0 r1 (by omega)) ?_
  rintro e w2 ⟨v, l, q, rfl, hV, h2, h20, r2, hq, hb2⟩
  replace e0 := (hb2.cell (p := ⟨w.heap.size, 0, none⟩) (by simp)).trans e0
  replace f0 := (hb2.frozen (p := ⟨w.heap.size, 0, none⟩) (by simp)).trans f0
  replace e1 := (hb2.cell (p := ⟨w.heap.size, 1, none⟩) (by simp)).trans e1
  replace f1 := (hb2.frozen (p := ⟨w.heap.size, 1, none⟩) (by simp)).trans f1
  replace e2 := (hb2.cell (p := ⟨w.heap.size, 2, none⟩) (by simp)).trans e2
  replace f2 := (hb2.frozen (p := ⟨w.heap.size, 2, none⟩) (by simp)).trans f2
  replace e3 := (hb2.cell (p := ⟨w.heap.size, 3, none⟩) (by simp)).trans e3
  replace f3 := (hb2.frozen (p := ⟨w.heap.size, 3, none⟩) (by simp)).trans f3
  have HV := Lib.hid hV
  have HB2 := Lib.hid (hA.trans (hb2.mono (by omega)))
  obtain ⟨va, vc, rfl, _⟩ := hV.1
  clear hV hA hb2 r1
  go_wp2_with fail
  refine Calls.mono (l91MatR_any _ (w.heap.size + 1) a l1 c1 q r2 (by omega)) ?_
  rintro e w3 ⟨x, y, z, u, q3, rfl, r3, -, b3, K3⟩
  replace e0 := (b3.cell (p := ⟨w.heap.size, 0, none⟩) (by simp)).trans e0
  replace f0 := (b3.frozen (p := ⟨w.heap.size, 0, none⟩) (by simp)).trans f0
  replace e1 := (b3.cell (p := ⟨w.heap.size, 1, none⟩) (by simp)).trans e1
  replace f1 := (b3.frozen (p := ⟨w.heap.size, 1, none⟩) (by simp)).trans f1
  replace e2 := (b3.cell (p := ⟨w.heap.size, 2, none⟩) (by simp)).trans e2
  replace f2 := (b3.frozen (p := ⟨w.heap.size, 2, none⟩) (by simp)).trans f2
  replace e3 := (b3.cell (p := ⟨w.heap.size, 3, none⟩) (by simp)).trans e3
  replace f3 := (b3.frozen (p := ⟨w.heap.size, 3, none⟩) (by simp)).trans f3
  have HV3 := Lib.hid ((HV.out.keptL K3 (by omega)).lower (show w.heap.size + 1 ≤ w1.heap.size by omega))
  have HB3 := Lib.hid (HB2.out.trans (b3.mono (by omega)))
  have hlt : w.heap.size < w3.heap.size := by have := r3.2.2.2.2.1; omega
  have hB3 := HB3.out
  clear r2 r3 b3 K3 HB2 HV
  go_wp2
  refine bodyPost_ret (by simp [results, Tryz.results10, go_sem, *]; try rfl) rfl ?_
  refine ⟨_, l, _, _, _, _, rfl, ?_, h2, h20, by go_grown⟩
  exact ((((HV3.out.setB (by omega) _).setB (by omega) _).setB (by omega) _).setB (by omega) _).1
end Go.Proofs.YtdlofnkimikaiaaGreatDoor
