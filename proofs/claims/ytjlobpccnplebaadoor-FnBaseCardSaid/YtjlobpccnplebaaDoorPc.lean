/- The draws of chapter 2: cones. -/
import Derived.Test.YtjlobpccnplebaaDoorDk
import Derived.Test.YtjlobpccnplebaaDoorPk
namespace Go.Proofs.YtjlobpccnplebaaDoor
open Go.RowKit

set_option maxHeartbeats 2000000 in
theorem drawConeIn_any (w : World) (a : Option Addr) (len cap : Nat) (h : Bytes w a len cap) :
    Calls Tryd.prog 12 #[.slice a len cap] w (OneMat w) := by
  go_enter Tryd.func12, Tryd.ntmps12
  go_wp2_with fail
  refine Calls.mono (l6Open_any _ a len cap (h.below (by go_grown))) ?_
  rintro e w1 ⟨l1, c1, rfl, r1, hb1, hs1⟩
  rw [World.size_alloc] at r1
  have hA : Below w.heap.size w w1 := belowTo (by go_grown) hb1
  have z0 : ∀ o, w1.cell? ⟨w.heap.size, o, none⟩ = _ := fun o => hb1.cell (p := ⟨w.heap.size, o, none⟩) (by simp)
  go_wp2_with fail
  refine Calls.mono (l91Cone_any _ _ a l1 c1 0 r1 (by omega)) ?_
  rintro e w2 ⟨x, y, z, u, q, rfl, _, _, _, _, _, _, hb2, _⟩
  have hB : Below w.heap.size w w2 := hA.trans (hb2.mono (by simp))
  have y0 : ∀ o, w2.cell? ⟨w.heap.size, o, none⟩ = w1.cell? ⟨w.heap.size, o, none⟩ := fun o => hb2.cell (p := ⟨w.heap.size, o, none⟩) (by simp)
  have c0 : w2.cell? ⟨w.heap.size, 0, none⟩ = some (.int .i64 0) := (y0 0).trans ((z0 0).trans (by simp))
  have c1 : w2.cell? ⟨w.heap.size, 1, none⟩ = some (.int .i64 0) := (y0 1).trans ((z0 1).trans (by simp))
  have c2 : w2.cell? ⟨w.heap.size, 2, none⟩ = some (.int .i64 0) := (y0 2).trans ((z0 2).trans (by simp))
  have c3 : w2.cell? ⟨w.heap.size, 3, none⟩ = some (.int .i64 0) := (y0 3).trans ((z0 3).trans (by simp))
  have g0 : ∀ o, w2.frozen? ⟨w.heap.size, o, none⟩ = false := fun o => (hb2.frozen (p := ⟨w.heap.size, o, none⟩) (by simp)).trans ((hb1.frozen (p := ⟨w.heap.size, o, none⟩) (by simp)).trans (by simp))
  have hS := hB.size
  clear y0 z0 hb1 hb2 r1
  go_wp2
  refine bodyPost_ret (by simp [results, Tryd.results12, go_sem, *]; try rfl) rfl ?_
  exact ⟨_, _, _, _, rfl, by go_grown⟩
set_option maxHeartbeats 2000000 in
theorem drawConeIndex_any (w : World) (a : Option Addr) (len cap : Nat) (h : Bytes w a len cap) :
    Calls Tryd.prog 17 #[.slice a len cap] w (OneMat w) := by
  go_enter Tryd.func17, Tryd.ntmps17
  go_wp2_with fail
  refine Calls.mono (l6Open_any _ a len cap (h.below (by go_grown))) ?_
  rintro e w1 ⟨l1, c1, rfl, r1, hb1, hs1⟩
  rw [World.size_alloc] at r1
  have hA : Below w.heap.size w w1 := belowTo (by go_grown) hb1
  have z0 : ∀ o, w1.cell? ⟨w.heap.size, o, none⟩ = _ := fun o => hb1.cell (p := ⟨w.heap.size, o, none⟩) (by simp)
  go_wp2_with fail
  refine Calls.mono (l91Cone_any _ _ a l1 c1 0 r1 (by omega)) ?_
  rintro e w2 ⟨x, y, z, u, q, rfl, _, _, _, _, _, _, hb2, _⟩
  have hB : Below w.heap.size w w2 := hA.trans (hb2.mono (by simp))
  have y0 : ∀ o, w2.cell? ⟨w.heap.size, o, none⟩ = w1.cell? ⟨w.heap.size, o, none⟩ := fun o => hb2.cell (p := ⟨w.heap.size, o, none⟩) (by simp)
  have c0 : w2.cell? ⟨w.heap.size, 0, none⟩ = some (.int .i64 0) := (y0 0).trans ((z0 0).trans (by simp))
  have c1 : w2.cell? ⟨w.heap.size, 1, none⟩ = some (.int .i64 0) := (y0 1).trans ((z0 1).trans (by simp))
  have c2 : w2.cell? ⟨w.heap.size, 2, none⟩ = some (.int .i64 0) := (y0 2).trans ((z0 2).trans (by simp))
  have c3 : w2.cell? ⟨w.heap.size, 3, none⟩ = some (.int .i64 0) := (y0 3).trans ((z0 3).trans (by simp))
  have g0 : ∀ o, w2.frozen? ⟨w.heap.size, o, none⟩ = false := fun o => (hb2.frozen (p := ⟨w.heap.size, o, none⟩) (by simp)).trans ((hb1.frozen (p := ⟨w.heap.size, o, none⟩) (by simp)).trans (by simp))
  have hS := hB.size
  clear y0 z0 hb1 hb2 r1
  go_wp2
  refine bodyPost_ret (by simp [results, Tryd.results17, go_sem, *]; try rfl) rfl ?_
  exact ⟨_, _, _, _, rfl, by go_grown⟩
set_option maxHeartbeats 2000000 in
theorem drawConeKind_any (w : World) (a : Option Addr) (len cap : Nat) (h : Bytes w a len cap) :
    Calls Tryd.prog 24 #[.slice a len cap] w (OneMat w) := by
  go_enter Tryd.func24, Tryd.ntmps24
  go_wp2_with fail
  refine Calls.mono (l6Open_any _ a len cap (h.below (by go_grown))) ?_
  rintro e w1 ⟨l1, c1, rfl, r1, hb1, hs1⟩
  rw [World.size_alloc] at r1
  have hA : Below w.heap.size w w1 := belowTo (by go_grown) hb1
  have z0 : ∀ o, w1.cell? ⟨w.heap.size, o, none⟩ = _ := fun o => hb1.cell (p := ⟨w.heap.size, o, none⟩) (by simp)
  go_wp2_with fail
  refine Calls.mono (l91Cone_any _ _ a l1 c1 0 r1 (by omega)) ?_
  rintro e w2 ⟨x, y, z, u, q, rfl, _, _, _, _, _, _, hb2, _⟩
  have hB : Below w.heap.size w w2 := hA.trans (hb2.mono (by simp))
  have y0 : ∀ o, w2.cell? ⟨w.heap.size, o, none⟩ = w1.cell? ⟨w.heap.size, o, none⟩ := fun o => hb2.cell (p := ⟨w.heap.size, o, none⟩) (by simp)
  have c0 : w2.cell? ⟨w.heap.size, 0, none⟩ = some (.int .i64 0) := (y0 0).trans ((z0 0).trans (by simp))
  have c1 : w2.cell? ⟨w.heap.size, 1, none⟩ = some (.int .i64 0) := (y0 1).trans ((z0 1).trans (by simp))
  have c2 : w2.cell? ⟨w.heap.size, 2, none⟩ = some (.int .i64 0) := (y0 2).trans ((z0 2).trans (by simp))
  have c3 : w2.cell? ⟨w.heap.size, 3, none⟩ = some (.int .i64 0) := (y0 3).trans ((z0 3).trans (by simp))
  have g0 : ∀ o, w2.frozen? ⟨w.heap.size, o, none⟩ = false := fun o => (hb2.frozen (p := ⟨w.heap.size, o, none⟩) (by simp)).trans ((hb1.frozen (p := ⟨w.heap.size, o, none⟩) (by simp)).trans (by simp))
  have hS := hB.size
  clear y0 z0 hb1 hb2 r1
  go_wp2
  refine bodyPost_ret (by simp [results, Tryd.results24, go_sem, *]; try rfl) rfl ?_
  exact ⟨_, _, _, _, rfl, by go_grown⟩
set_option maxHeartbeats 2000000 in
theorem drawConeBase_any (w : World) (a : Option Addr) (len cap : Nat) (h : Bytes w a len cap) :
    Calls Tryd.prog 28 #[.slice a len cap] w (OneMat w) := by
  go_enter Tryd.func28, Tryd.ntmps28
  go_wp2_with fail
  refine Calls.mono (l6Open_any _ a len cap (h.below (by go_grown))) ?_
  rintro e w1 ⟨l1, c1, rfl, r1, hb1, hs1⟩
  rw [World.size_alloc] at r1
  have hA : Below w.heap.size w w1 := belowTo (by go_grown) hb1
  have z0 : ∀ o, w1.cell? ⟨w.heap.size, o, none⟩ = _ := fun o => hb1.cell (p := ⟨w.heap.size, o, none⟩) (by simp)
  go_wp2_with fail
  refine Calls.mono (l91Cone_any _ _ a l1 c1 0 r1 (by omega)) ?_
  rintro e w2 ⟨x, y, z, u, q, rfl, _, _, _, _, _, _, hb2, _⟩
  have hB : Below w.heap.size w w2 := hA.trans (hb2.mono (by simp))
  have y0 : ∀ o, w2.cell? ⟨w.heap.size, o, none⟩ = w1.cell? ⟨w.heap.size, o, none⟩ := fun o => hb2.cell (p := ⟨w.heap.size, o, none⟩) (by simp)
  have c0 : w2.cell? ⟨w.heap.size, 0, none⟩ = some (.int .i64 0) := (y0 0).trans ((z0 0).trans (by simp))
  have c1 : w2.cell? ⟨w.heap.size, 1, none⟩ = some (.int .i64 0) := (y0 1).trans ((z0 1).trans (by simp))
  have c2 : w2.cell? ⟨w.heap.size, 2, none⟩ = some (.int .i64 0) := (y0 2).trans ((z0 2).trans (by simp))
  have c3 : w2.cell? ⟨w.heap.size, 3, none⟩ = some (.int .i64 0) := (y0 3).trans ((z0 3).trans (by simp))
  have g0 : ∀ o, w2.frozen? ⟨w.heap.size, o, none⟩ = false := fun o => (hb2.frozen (p := ⟨w.heap.size, o, none⟩) (by simp)).trans ((hb1.frozen (p := ⟨w.heap.size, o, none⟩) (by simp)).trans (by simp))
  have hS := hB.size
  clear y0 z0 hb1 hb2 r1
  go_wp2
  refine bodyPost_ret (by simp [results, Tryd.results28, go_sem, *]; try rfl) rfl ?_
  exact ⟨_, _, _, _, rfl, by go_grown⟩
set_option maxHeartbeats 2000000 in
theorem drawConeFraction_any (w : World) (a : Option Addr) (len cap : Nat) (h : Bytes w a len cap) :
    Calls Tryd.prog 34 #[.slice a len cap] w (OneMat w) := by
  go_enter Tryd.func34, Tryd.ntmps34
  go_wp2_with fail
  refine Calls.mono (l6Open_any _ a len cap (h.below (by go_grown))) ?_
  rintro e w1 ⟨l1, c1, rfl, r1, hb1, hs1⟩
  rw [World.size_alloc] at r1
  have hA : Below w.heap.size w w1 := belowTo (by go_grown) hb1
  have z0 : ∀ o, w1.cell? ⟨w.heap.size, o, none⟩ = _ := fun o => hb1.cell (p := ⟨w.heap.size, o, none⟩) (by simp)
  go_wp2_with fail
  refine Calls.mono (l91Cone_any _ _ a l1 c1 0 r1 (by omega)) ?_
  rintro e w2 ⟨x, y, z, u, q, rfl, _, _, _, _, _, _, hb2, _⟩
  have hB : Below w.heap.size w w2 := hA.trans (hb2.mono (by simp))
  have y0 : ∀ o, w2.cell? ⟨w.heap.size, o, none⟩ = w1.cell? ⟨w.heap.size, o, none⟩ := fun o => hb2.cell (p := ⟨w.heap.size, o, none⟩) (by simp)
  have c0 : w2.cell? ⟨w.heap.size, 0, none⟩ = some (.int .i64 0) := (y0 0).trans ((z0 0).trans (by simp))
  have c1 : w2.cell? ⟨w.heap.size, 1, none⟩ = some (.int .i64 0) := (y0 1).trans ((z0 1).trans (by simp))
  have c2 : w2.cell? ⟨w.heap.size, 2, none⟩ = some (.int .i64 0) := (y0 2).trans ((z0 2).trans (by simp))
  have c3 : w2.cell? ⟨w.heap.size, 3, none⟩ = some (.int .i64 0) := (y0 3).trans ((z0 3).trans (by simp))
  have g0 : ∀ o, w2.frozen? ⟨w.heap.size, o, none⟩ = false := fun o => (hb2.frozen (p := ⟨w.heap.size, o, none⟩) (by simp)).trans ((hb1.frozen (p := ⟨w.heap.size, o, none⟩) (by simp)).trans (by simp))
  have hS := hB.size
  clear y0 z0 hb1 hb2 r1
  go_wp2
  refine bodyPost_ret (by simp [results, Tryd.results34, go_sem, *]; try rfl) rfl ?_
  exact ⟨_, _, _, _, rfl, by go_grown⟩
set_option maxHeartbeats 2000000 in
theorem drawConeDual_any (w : World) (a : Option Addr) (len cap : Nat) (h : Bytes w a len cap) :
    Calls Tryd.prog 38 #[.slice a len cap] w (OneMat w) := by
  go_enter Tryd.func38, Tryd.ntmps38
  go_wp2_with fail
  refine Calls.mono (l6Open_any _ a len cap (h.below (by go_grown))) ?_
  rintro e w1 ⟨l1, c1, rfl, r1, hb1, hs1⟩
  rw [World.size_alloc] at r1
  have hA : Below w.heap.size w w1 := belowTo (by go_grown) hb1
  have z0 : ∀ o, w1.cell? ⟨w.heap.size, o, none⟩ = _ := fun o => hb1.cell (p := ⟨w.heap.size, o, none⟩) (by simp)
  go_wp2_with fail
  refine Calls.mono (l91Cone_any _ _ a l1 c1 0 r1 (by omega)) ?_
  rintro e w2 ⟨x, y, z, u, q, rfl, _, _, _, _, _, _, hb2, _⟩
  have hB : Below w.heap.size w w2 := hA.trans (hb2.mono (by simp))
  have y0 : ∀ o, w2.cell? ⟨w.heap.size, o, none⟩ = w1.cell? ⟨w.heap.size, o, none⟩ := fun o => hb2.cell (p := ⟨w.heap.size, o, none⟩) (by simp)
  have c0 : w2.cell? ⟨w.heap.size, 0, none⟩ = some (.int .i64 0) := (y0 0).trans ((z0 0).trans (by simp))
  have c1 : w2.cell? ⟨w.heap.size, 1, none⟩ = some (.int .i64 0) := (y0 1).trans ((z0 1).trans (by simp))
  have c2 : w2.cell? ⟨w.heap.size, 2, none⟩ = some (.int .i64 0) := (y0 2).trans ((z0 2).trans (by simp))
  have c3 : w2.cell? ⟨w.heap.size, 3, none⟩ = some (.int .i64 0) := (y0 3).trans ((z0 3).trans (by simp))
  have g0 : ∀ o, w2.frozen? ⟨w.heap.size, o, none⟩ = false := fun o => (hb2.frozen (p := ⟨w.heap.size, o, none⟩) (by simp)).trans ((hb1.frozen (p := ⟨w.heap.size, o, none⟩) (by simp)).trans (by simp))
  have hS := hB.size
  clear y0 z0 hb1 hb2 r1
  go_wp2
  refine bodyPost_ret (by simp [results, Tryd.results38, go_sem, *]; try rfl) rfl ?_
  exact ⟨_, _, _, _, rfl, by go_grown⟩
end Go.Proofs.YtjlobpccnplebaaDoor
