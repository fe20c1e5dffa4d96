/- The draw of a polygon and a matrix. -/
import Derived.Test.YtgaeibibeekclaaGreatDoorK9
import Derived.Test.YtgaeibibeekclaaGreatDoorJ1
import Derived.Test.YtgaeibibeekclaaGreatDoorBg
namespace Go.Proofs.YtgaeibibeekclaaGreatDoor
open Go.RowKit

def GivenPM (w : World) (e : Ending) (w' : World) : Prop :=
  ∃ (v : Value) (l : List V2) (x y z u : Int), e = .returned (.tuple #[v, .agg #[.int .i64 (x), .int .i64 (y), .int .i64 (z), .int .i64 (u)]]) ∧ ReadsVecs w' v l ∧ 3 ≤ l.length ∧ l.length ≤ 30 ∧ Below w.heap.size w w'
set_option maxHeartbeats 4000000 in
theorem drawPolygonMove_any (w : World) (a : Option Addr) (len cap : Nat) (h : Bytes w a len cap) :
    Calls Tryz.prog 14 #[.slice a len cap] w (GivenPM w) := by
  go_enter Tryz.func14, Tryz.ntmps14
  go_wp2_with fail
  refine Calls.mono (l6Open_any _ a len cap (h.below (by go_grown))) ?_
  rintro e w1 ⟨l1, c1, rfl, r1, hb1, hs1⟩
  rw [World.size_alloc] at r1 hs1
  have hA : Below w.heap.size w w1 := belowTo (by go_grown) hb1
  have e0 : w1.cell? ⟨w.heap.size, 0, none⟩ = some (.int .i64 0) := (hb1.cell (p := ⟨w.heap.size, 0, none⟩) (by simp)).trans (by simp)
  have f0 : w1.frozen? ⟨w.heap.size, 0, none⟩ = false := (hb1.frozen (p := ⟨w.heap.size, 0, none⟩) (by simp)).trans (by simp)
  have e1 : w1.cell? ⟨w.heap.size, 1, none⟩ = some (.int .i64 0) := (hb1.cell (p := ⟨w.heap.size, 1, none⟩) (by simp)).trans (by simp)
  have f1 : w1.frozen? ⟨w.heap.size, 1, none⟩ = false := (hb1.frozen (p := ⟨w.heap.size, 1, none⟩) (by simp)).trans (by simp)
  have e2 : w1.cell? ⟨w.heap.size, 2, none⟩ = some (.int .i64 0) := (hb1.cell (p := ⟨w.heap.size, 2, none⟩) (by simp)).trans (by simp)
  have f2 : w1.frozen? ⟨w.heap.size, 2, none⟩ = false := (hb1.frozen (p := ⟨w.heap.size, 2, none⟩) (by simp)).trans (by simp)
  have e3 : w1.cell? ⟨w.heap.size, 3, none⟩ = some (.int .i64 0) := (hb1.cell (p := ⟨w.heap.size, 3, none⟩) (by simp)).trans (by simp)
  have f3 : w1.frozen? ⟨w.heap.size, 3, none⟩ = false := (hb1.frozen (p := ⟨w.heap.size, 3, none⟩) (by simp)).trans (by simp)
  clear hb1 h
  go_wp2_with fail
  refine Calls.mono (l92Polygon_any w1 (w.heap.size + 1) a l1 c1 0 r1 (by omega)) ?_
  rintro e w2 ⟨v, l, q, rfl, hV, h2, h20, r2, hq, hb2, -⟩
  replace e0 := (hb2.cell (p := ⟨w.heap.size, 0, none⟩) (by simp)).trans e0
  replace f0 := (hb2.frozen (p := ⟨w.heap.size, 0, none⟩) (by simp)).trans f0
  replace e1 := (hb2.cell (p := ⟨w.heap.size, 1, none⟩) (by simp)).trans e1
  replace f1 := (hb2.frozen (p := ⟨w.heap.size, 1, none⟩) (by simp)).trans f1
  replace e2 := (hb2.cell (p := ⟨w.heap.size, 2, none⟩) (by simp)).trans e2
  replace f2 := (hb2.frozen (p := ⟨w.heap.size, 2, none⟩) (by simp)).trans f2
  replace e3 := (hb2.cell (p := ⟨w.heap.size, 3, none⟩) (by simp)).trans e3
  replace f3 := (hb2.frozen (p := ⟨w.heap.size, 3, none⟩) (by simp)).trans f3
  have HV := Lib.hid hV
  have HB2 := Lib.hid (hA.trans (hb2.mono (by omega)))
  obtain ⟨va, vc, rfl, _⟩ := hV.1
  clear hV hA hb2 r1
  go_wp2_with fail
  refine Calls.mono (l91MatR_any _ (w.heap.size + 1) a l1 c1 q r2 (by omega)) ?_
  rintro e w3 ⟨x, y, z, u, q3, rfl, r3, -, b3, K3⟩
  replace e0 := (b3.cell (p := ⟨w.heap.size, 0, none⟩) (by simp)).trans e0
  replace f0 := (b3.frozen (p := ⟨w.heap.size, 0, none⟩) (by simp)).trans f0
  replace e1 := (b3.cell (p := ⟨w.heap.size, 1, none⟩) (by simp)).trans e1
  replace f1 := (b3.frozen (p := ⟨w.heap.size, 1, none⟩) (by simp)).trans f1
  replace e2 := (b3.cell (p := ⟨w.heap.size, 2, none⟩) (by simp)).trans e2
  replace f2 := (b3.frozen (p := ⟨w.heap.size, 2, none⟩) (by simp)).trans f2
  replace e3 := (b3.cell (p := ⟨w.heap.size, 3, none⟩) (by simp)).trans e3
  replace f3 := (b3.frozen (p := ⟨w.heap.size, 3, none⟩) (by simp)).trans f3
  have HV3 := Lib.hid ((HV.out.keptL K3 (by omega)).lower (show w.heap.size + 1 ≤ w1.heap.size by omega))
  have HB3 := Lib.hid (HB2.out.trans (b3.mono (by omega)))
  have hlt : w.heap.size < w3.heap.size := by have := r3.2.2.2.2.1; omega
  have hB3 := HB3.out
  clear r2 r3 b3 K3 HB2 HV
  go_wp2
  refine bodyPost_ret (by simp [results, Tryz.results14, go_sem, *]; try rfl) rfl ?_
  refine ⟨_, l, _, _, _, _, rfl, ?_, h2, h20, by go_grown⟩
  exact ((((HV3.out.setB (by omega) _).setB (by omega) _).setB (by omega) _).setB (by omega) _).1
set_option maxHeartbeats 8000000 in
theorem drawPolygonSame_any (w : World) (a : Option Addr) (len cap : Nat) (h : Bytes w a len cap) :
    Calls Tryz.prog 22 #[.slice a len cap] w (GivenPP w) := by
  have HO := Lib.hid (l6Open_any w a len cap h)
  clear h
  go_enter Tryz.func22, Tryz.ntmps22
  go_wp2_with fail
  refine Calls.mono HO.out ?_
  rintro e w1 ⟨l1, c1, rfl, r1, hb1, hs1⟩
  have hB1 : w.heap.size < w1.heap.size := r1.2.2.2.2.1
  go_wp2_with fail
  refine Calls.mono (l92Polygon_any w1 w.heap.size a l1 c1 0 r1 (by omega)) ?_
  rintro e w2 ⟨v, l, q, rfl, hV, h2, h20, r2, hq, hb2, -⟩
  have hs2 := hb2.size
  have HB2 := Lib.hid (hb1.trans hb2)
  have HV2 := Lib.hid hV
  have HR2 := Lib.hid r2
  obtain ⟨va, vc, rfl, -⟩ := id hV.1
  clear hV hb1 hb2 r1 r2 HO
  go_wp2_with fail
  refine Calls.mono (l91MatR_any _ w.heap.size a l1 c1 q HR2.out (by omega)) ?_
  rintro e w3 ⟨x, y, z, u, q3, rfl, r3, hq3, b3, K3⟩
  have HV3 := Lib.hid (HV2.out.keptL K3 (by omega))
  have HB3 := Lib.hid (HB2.out.trans b3)
  have HR3 := Lib.hid r3
  have hs3 := b3.size
  clear b3 K3 r3 HR2 HV2 HB2
  have HM := Lib.hid (specPolygonMove_any _ l x y z u w3 HV3.out.1)
  have HLn : Hid ((MoveB l x y z u && polyB (moveL x y z u l)) = true → (MoveL l x y z u).length = l.length) := fun hk => by
    have e1 : MoveL l x y z u = tidyP (moveL x y z u l) := by unfold MoveL; rw [hk]; rfl
    rw [e1, tidyP_len, moveL_len]
  generalize (MoveB l x y z u && polyB (moveL x y z u l)) = K at *
  generalize MoveL l x y z u = S at *
  go_wp2_with fail
  refine Calls.mono HM.out ?_
  rintro e w4 ⟨v4, rfl, hI4, hb4⟩
  have HV4 := Lib.hid (HV3.out.below hb4)
  have HR4 := Lib.hid (HR3.out.below (hb4.mono (by omega)))
  have HB4 := Lib.hid (HB3.out.trans (hb4.mono (by omega)))
  have hs4 := hb4.size
  clear hb4 HV3 HR3 HB3 HM
  cases K
  · clear hI4 HLn
    go_wp2_with fail
    refine Calls.mono (l92Polygon_any w4 w.heap.size a l1 c1 q3 HR4.out (by omega)) ?_
    rintro e w5 ⟨u5, m, q5, rfl, hU, m2, m20, r5, hq5, hb5, hK5⟩
    have HV5 := Lib.hid (HV4.out.keptL hK5 (by omega)).1
    have HU5 := Lib.hid hU.1
    have HB5 := Lib.hid (HB4.out.trans hb5)
    clear hU hb5 hK5 r5 HR4 HB4 HV4
    go_wp2
    go_returns
    exact ⟨_, _, l, m, rfl, HV5.out, HU5.out, h2, h20, m2, m20, HB5.out⟩
  · have hSl := HLn.out rfl
    have HS4 := Lib.hid (VecsO.of (hI4.lower (show w1.heap.size ≤ w3.heap.size by omega)) (by omega) (by omega))
    have HSl := Lib.hid hSl
    clear hI4 HLn hSl
    go_wp2_with fail
    refine Calls.mono (pickG_any _ w.heap.size a l1 c1 q3 3 HR4.out (by omega) (by omega)) ?_
    rintro e w5 ⟨⟨n, rfl, n0, n3, r5, -, -, -, b5⟩, g5⟩
    have HV5 := Lib.hid (HV4.out.picked g5 hB1)
    have HS5 := Lib.hid (HS4.out.picked g5 hB1)
    have HR5 := Lib.hid r5
    have HB5 := Lib.hid (HB4.out.trans b5)
    have hs5 := b5.size
    clear g5 b5 r5 HV4 HS4 HR4 HB4
    by_cases hn : 0 < n
    · have HV6 := Lib.hid HV5.out.1
      have HS6 := Lib.hid HS5.out.1
      clear HV5 HS5 HR5
      go_wp2
      go_returns
      exact ⟨_, _, l, S, rfl, HV6.out, HS6.out, h2, h20, by rw [HSl.out]; exact h2, by rw [HSl.out]; exact h20, HB5.out⟩
    · clear HS5
      go_wp2_with fail
      refine Calls.mono (l92Polygon_any w5 w.heap.size a l1 c1 (q3 + 1) HR5.out (by omega)) ?_
      rintro e w6 ⟨u6, m, q6, rfl, hU, m2, m20, r6, hq6, hb6, hK6⟩
      have HV6 := Lib.hid (HV5.out.keptL hK6 (by omega)).1
      have HU6 := Lib.hid hU.1
      have HB6 := Lib.hid (HB5.out.trans hb6)
      clear hU hb6 hK6 r6 HR5 HB5 HV5
      go_wp2
      go_returns
      exact ⟨_, _, l, m, rfl, HV6.out, HU6.out, h2, h20, m2, m20, HB6.out⟩
end Go.Proofs.YtgaeibibeekclaaGreatDoor
