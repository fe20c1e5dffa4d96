/- FnPolygonShift: the walk. -/
import Derived.Test.YtgaeibibeekclaaGreatDoorK9
import Derived.Test.YtgaeibibeekclaaGreatDoorK7
import Derived.Test.YtgaeibibeekclaaGreatDoorK0
import Derived.Test.YtgaeibibeekclaaGreatDoorJ2
import Derived.Test.YtgaeibibeekclaaGreatDoorL5
import Derived.Test.YtgaeibibeekclaaGreatDoorK1
import Derived.Test.YtgaeibibeekclaaGreatDoorL2
namespace Go.Proofs.YtgaeibibeekclaaGreatDoor
open Go.RowKit

set_option maxRecDepth 100000 in
set_option maxHeartbeats 16000000 in
theorem fnPolygonShift_any (a : Option Addr) (len cap : Nat) (w : World) (h : Bytes w a len cap) (hg : EtOk w) :
    Calls Tryz.prog 3 #[.slice a len cap] w fun e w' => e = .returned (.bool true) ∧ Below w.heap.size w w' := by
  by_cases hlen : len ≤ 1048576
  case neg =>
    have j1 : (1048576 : Int) < (len : Int) := by omega
    clear h hg
    go_enter Tryz.func3, Tryz.ntmps3
    go_wp2
    go_returns
    exact ⟨rfl, by go_grown⟩
  case pos =>
  have j1 : (len : Int) ≤ 1048576 := by omega
  have HO := Lib.hid (drawPolygonShift_any w a len cap h)
  clear h
  go_enter Tryz.func3, Tryz.ntmps3
  go_wp2_with fail
  refine Calls.mono HO.out ?_
  rintro e w1 ⟨v, l, x, y, rfl, hV, h2, h20, hb1⟩
  have HG := Lib.hid (hg.below hb1)
  have Hf := Lib.hid hV
  have HB : Hid (Below w.heap.size w w1) := hb1
  clear hb1 HO hg hV
  cases hk : (ShiftB l (x, y) && polyB (l.map (shiftF (x, y))))
  · have C1 : Hid (∀ (w' : World) (v0 : Value), ReadsVecs w' v0 (l) → EtOk w' → Calls Tryz.prog 8 #[v0, .agg #[.int .i64 (x), .int .i64 (y)]] w' (GivesVecsR w' ([]) (false))) := fun w' v0 h0 hg' => by
      have h := polygonShift_any v0 l x y w' h0 hg'
      unfold ShiftL at h; rw [hk] at h
      exact h
    have C2 : Hid (∀ (w' : World) (v0 : Value), ReadsVecs w' v0 (l) → EtOk w' → Calls Tryz.prog 9 #[v0, .agg #[.int .i64 (x), .int .i64 (y)]] w' (GivesVecsOk w' ([]) (false))) := fun w' v0 h0 hg' => by
      have h := specPolygonShift_any v0 l x y w' h0
      unfold ShiftL at h; rw [hk] at h
      exact h
    clear hk
    go_wp2_with fail
    refine Calls.mono (C1.out _ _ (Hf.out.below (by go_grown)) (HG.out.below (by go_grown))) ?_
    rintro e w2 ⟨v2, rfl, hI2, hb2⟩
    have hB2 := belowTo (a := w1) (by go_grown) hb2
    replace Hf := Lib.hid (Hf.out.below hB2)
    have Hm : Hid (BoxAt w2 w1.heap.size [.int .i64 x, .int .i64 y]) := Lib.hid (BoxAt.below (BoxAt.made2 _ (.int .i64 x) (.int .i64 y) _) hb2)
    obtain ⟨mm0, mm1⟩ := Hm.out.two
    have ltm := Hm.out.1
    have nem := Nat.ne_of_lt ltm
    replace HG := Lib.hid (HG.out.below hB2)
    replace HB := Lib.hid (belowTo HB.out hB2)
    clear hb2 hB2
    have Ho1 := Lib.hid (VecsR.reads hI2 (by simp))
    clear hI2
    go_wp2_with fail
    refine Calls.mono (C2.out _ _ (Hf.out.below (by go_grown)) (HG.out.below (by go_grown))) ?_
    rintro e w3 ⟨v3, rfl, hI3, hb3⟩
    have hB3 := belowTo (a := w2) (by go_grown) hb3
    replace Hf := Lib.hid (Hf.out.below hB3)
    clear mm0 mm1 ltm nem
    replace Hm := Lib.hid (Hm.out.below hB3)
    replace Ho1 := Lib.hid (Ho1.out.below hB3)
    obtain ⟨mm0, mm1⟩ := Hm.out.two
    have ltm := Hm.out.1
    have nem := Nat.ne_of_lt ltm
    replace HG := Lib.hid (HG.out.below hB3)
    replace HB := Lib.hid (belowTo HB.out hB3)
    clear hb3 hB3
    have Ho2 := Lib.hid (Vecs.reads hI3 (by simp))
    clear hI3
    go_wp2_with fail
    refine Calls.mono (sameVecs_eq _ _ _ _ (Ho1.out.below (by go_grown)) (Ho2.out.below (by go_grown))) ?_
    rintro e w4 ⟨rfl, hb4⟩
    have hB4 := belowTo (a := w3) (by go_grown) hb4
    replace Hf := Lib.hid (Hf.out.below hB4)
    clear mm0 mm1 ltm nem
    replace Hm := Lib.hid (Hm.out.below hB4)
    replace Ho1 := Lib.hid (Ho1.out.below hB4)
    replace Ho2 := Lib.hid (Ho2.out.below hB4)
    obtain ⟨mm0, mm1⟩ := Hm.out.two
    have ltm := Hm.out.1
    have nem := Nat.ne_of_lt ltm
    replace HG := Lib.hid (HG.out.below hB4)
    replace HB := Lib.hid (belowTo HB.out hB4)
    clear hb4 hB4
    go_wp2_with fail
    refine Calls.mono (sameVecs_eq _ _ _ _ (Ho1.out.below (by go_grown)) (Ho2.out.below (by go_grown))) ?_
    rintro e w5 ⟨rfl, hb5⟩
    have hB5 := belowTo (a := w4) (by go_grown) hb5
    replace Hf := Lib.hid (Hf.out.below hB5)
    clear mm0 mm1 ltm nem
    replace Hm := Lib.hid (Hm.out.below hB5)
    replace Ho1 := Lib.hid (Ho1.out.below hB5)
    replace Ho2 := Lib.hid (Ho2.out.below hB5)
    obtain ⟨mm0, mm1⟩ := Hm.out.two
    have ltm := Hm.out.1
    have nem := Nat.ne_of_lt ltm
    replace HG := Lib.hid (HG.out.below hB5)
    replace HB := Lib.hid (belowTo HB.out hB5)
    clear hb5 hB5
    go_wp2
    go_returns
    exact ⟨rfl, HB.out⟩
  · have C1 : Hid (∀ (w' : World) (v0 : Value), ReadsVecs w' v0 (l) → EtOk w' → Calls Tryz.prog 8 #[v0, .agg #[.int .i64 (x), .int .i64 (y)]] w' (GivesVecsR w' (tidyP (l.map (shiftF (x, y)))) (true))) := fun w' v0 h0 hg' => by
      have h := polygonShift_any v0 l x y w' h0 hg'
      unfold ShiftL at h; rw [hk] at h
      exact h
    have C2 : Hid (∀ (w' : World) (v0 : Value), ReadsVecs w' v0 (l) → EtOk w' → Calls Tryz.prog 9 #[v0, .agg #[.int .i64 (x), .int .i64 (y)]] w' (GivesVecsOk w' (tidyP (l.map (shiftF (x, y)))) (true))) := fun w' v0 h0 hg' => by
      have h := specPolygonShift_any v0 l x y w' h0
      unfold ShiftL at h; rw [hk] at h
      exact h
    rw [Bool.and_eq_true] at hk
    obtain ⟨q0, q1⟩ := hk
    unfold ShiftB at q0
    rw [Bool.and_eq_true] at q0
    have hk := q0.1
    have pt : polyB (tidyP (l.map (shiftF (x, y)))) = true := by rw [tidyP_poly]; exact q1
    have q3 := pc_areaS (l := l) (by omega) (x, y)
    have q4 := pc_edgeS (l := l) (by omega) (x, y)
    have q5 := pe_shift hk (x, y) q1
    have C3 : Hid (∀ (w' : World) (v0 : Value), ReadsVecs w' v0 (tidyP (l.map (shiftF (x, y)))) → EtOk w' → Calls Tryz.prog 11 #[v0] w' (fun e w'' => e = .returned (.tuple #[.int .i64 (areaZ l), .bool (true)]) ∧ Below w'.heap.size w' w'')) := fun w' v0 h0 hg' => by
      have h := polygonArea_any v0 (tidyP (l.map (shiftF (x, y)))) w' h0 hg'
      rw [pt, show gate true (areaZ (tidyP (l.map (shiftF (x, y))))) = areaZ (tidyP (l.map (shiftF (x, y)))) from rfl, q3] at h
      exact h
    have C4 : Hid (∀ (w' : World) (v0 : Value), ReadsVecs w' v0 (l) → EtOk w' → Calls Tryz.prog 11 #[v0] w' (fun e w'' => e = .returned (.tuple #[.int .i64 (areaZ l), .bool (true)]) ∧ Below w'.heap.size w' w'')) := fun w' v0 h0 hg' => by
      have h := polygonArea_any v0 (l) w' h0 hg'
      rw [hk] at h
      exact h
    have C5 : Hid (∀ (w' : World) (v0 : Value), ReadsVecs w' v0 (tidyP (l.map (shiftF (x, y)))) → EtOk w' → Calls Tryz.prog 12 #[v0] w' (fun e w'' => e = .returned (.tuple #[.int .i64 (edgeZ l l.length), .bool (true)]) ∧ Below w'.heap.size w' w'')) := fun w' v0 h0 hg' => by
      have h := polygonEdge_any v0 (tidyP (l.map (shiftF (x, y)))) w' h0 hg'
      rw [pt, show gate true (edgeZ (tidyP (l.map (shiftF (x, y)))) (tidyP (l.map (shiftF (x, y)))).length) = edgeZ (tidyP (l.map (shiftF (x, y)))) (tidyP (l.map (shiftF (x, y)))).length from rfl, q4] at h
      exact h
    have C6 : Hid (∀ (w' : World) (v0 : Value), ReadsVecs w' v0 (l) → EtOk w' → Calls Tryz.prog 12 #[v0] w' (fun e w'' => e = .returned (.tuple #[.int .i64 (edgeZ l l.length), .bool (true)]) ∧ Below w'.heap.size w' w'')) := fun w' v0 h0 hg' => by
      have h := polygonEdge_any v0 (l) w' h0 hg'
      rw [hk] at h
      exact h
    have C7 : Hid (∀ (w' : World) (v0 : Value) (v1 : Value), ReadsVecs w' v0 (l) → ReadsVecs w' v1 (tidyP (l.map (shiftF (x, y)))) → EtOk w' → Calls Tryz.prog 13 #[v0, v1] w' (fun e w'' => e = .returned (.bool (true)) ∧ Below w'.heap.size w' w'')) := fun w' v0 v1 h0 h1 hg' => by
      have h := polygonSame_any v0 v1 l (tidyP (l.map (shiftF (x, y)))) w' h0 h1 hg'
      rw [q5] at h
      exact h
    have HL : Hid ((tidyP (l.map (shiftF (x, y)))).length ≤ 1000) := by show _ ≤ _; rw [tidyP_len]; simp; omega
    generalize tidyP (l.map (shiftF (x, y))) = m at *
    generalize areaZ l = A at *
    generalize edgeZ l l.length = E at *
    clear q0 q1 q3 q4 q5 pt hk
    go_wp2_with fail
    refine Calls.mono (C1.out _ _ (Hf.out.below (by go_grown)) (HG.out.below (by go_grown))) ?_
    rintro e w2 ⟨v2, rfl, hI2, hb2⟩
    have hB2 := belowTo (a := w1) (by go_grown) hb2
    replace Hf := Lib.hid (Hf.out.below hB2)
    have Hm : Hid (BoxAt w2 w1.heap.size [.int .i64 x, .int .i64 y]) := Lib.hid (BoxAt.below (BoxAt.made2 _ (.int .i64 x) (.int .i64 y) _) hb2)
    obtain ⟨mm0, mm1⟩ := Hm.out.two
    have ltm := Hm.out.1
    have nem := Nat.ne_of_lt ltm
    replace HG := Lib.hid (HG.out.below hB2)
    replace HB := Lib.hid (belowTo HB.out hB2)
    clear hb2 hB2
    have Ho := Lib.hid (VecsR.reads hI2 (by have := HL.out; omega))
    clear hI2
    go_wp2_with fail
    refine Calls.mono (C2.out _ _ (Hf.out.below (by go_grown)) (HG.out.below (by go_grown))) ?_
    rintro e w3 ⟨v3, rfl, hI3, hb3⟩
    have hB3 := belowTo (a := w2) (by go_grown) hb3
    replace Hf := Lib.hid (Hf.out.below hB3)
    clear mm0 mm1 ltm nem
    replace Hm := Lib.hid (Hm.out.below hB3)
    replace Ho := Lib.hid (Ho.out.below hB3)
    obtain ⟨mm0, mm1⟩ := Hm.out.two
    have ltm := Hm.out.1
    have nem := Nat.ne_of_lt ltm
    replace HG := Lib.hid (HG.out.below hB3)
    replace HB := Lib.hid (belowTo HB.out hB3)
    clear hb3 hB3
    have Ho2 := Lib.hid (Vecs.reads hI3 (by have := HL.out; omega))
    clear hI3
    go_wp2_with fail
    refine Calls.mono (sameVecs_eq _ _ _ _ (Ho.out.below (by go_grown)) (Ho2.out.below (by go_grown))) ?_
    rintro e w4 ⟨rfl, hb4⟩
    have hB4 := belowTo (a := w3) (by go_grown) hb4
    replace Hf := Lib.hid (Hf.out.below hB4)
    clear mm0 mm1 ltm nem
    replace Hm := Lib.hid (Hm.out.below hB4)
    replace Ho := Lib.hid (Ho.out.below hB4)
    replace Ho2 := Lib.hid (Ho2.out.below hB4)
    obtain ⟨mm0, mm1⟩ := Hm.out.two
    have ltm := Hm.out.1
    have nem := Nat.ne_of_lt ltm
    replace HG := Lib.hid (HG.out.below hB4)
    replace HB := Lib.hid (belowTo HB.out hB4)
    clear hb4 hB4
    clear Ho2
    go_wp2_with fail
    refine Calls.mono (C3.out _ _ (Ho.out.below (by go_grown)) (HG.out.below (by go_grown))) ?_
    rintro e w5 ⟨rfl, hb5⟩
    have hB5 := belowTo (a := w4) (by go_grown) hb5
    replace Hf := Lib.hid (Hf.out.below hB5)
    clear mm0 mm1 ltm nem
    replace Hm := Lib.hid (Hm.out.below hB5)
    replace Ho := Lib.hid (Ho.out.below hB5)
    obtain ⟨mm0, mm1⟩ := Hm.out.two
    have ltm := Hm.out.1
    have nem := Nat.ne_of_lt ltm
    replace HG := Lib.hid (HG.out.below hB5)
    replace HB := Lib.hid (belowTo HB.out hB5)
    clear hb5 hB5
    go_wp2_with fail
    refine Calls.mono (C4.out _ _ (Hf.out.below (by go_grown)) (HG.out.below (by go_grown))) ?_
    rintro e w6 ⟨rfl, hb6⟩
    have hB6 := belowTo (a := w5) (by go_grown) hb6
    replace Hf := Lib.hid (Hf.out.below hB6)
    clear mm0 mm1 ltm nem
    replace Hm := Lib.hid (Hm.out.below hB6)
    replace Ho := Lib.hid (Ho.out.below hB6)
    obtain ⟨mm0, mm1⟩ := Hm.out.two
    have ltm := Hm.out.1
    have nem := Nat.ne_of_lt ltm
    replace HG := Lib.hid (HG.out.below hB6)
    replace HB := Lib.hid (belowTo HB.out hB6)
    clear hb6 hB6
    go_wp2_with fail
    refine Calls.mono (C5.out _ _ (Ho.out.below (by go_grown)) (HG.out.below (by go_grown))) ?_
    rintro e w7 ⟨rfl, hb7⟩
    have hB7 := belowTo (a := w6) (by go_grown) hb7
    replace Hf := Lib.hid (Hf.out.below hB7)
    clear mm0 mm1 ltm nem
    replace Hm := Lib.hid (Hm.out.below hB7)
    replace Ho := Lib.hid (Ho.out.below hB7)
    obtain ⟨mm0, mm1⟩ := Hm.out.two
    have ltm := Hm.out.1
    have nem := Nat.ne_of_lt ltm
    replace HG := Lib.hid (HG.out.below hB7)
    replace HB := Lib.hid (belowTo HB.out hB7)
    clear hb7 hB7
    go_wp2_with fail
    refine Calls.mono (C6.out _ _ (Hf.out.below (by go_grown)) (HG.out.below (by go_grown))) ?_
    rintro e w8 ⟨rfl, hb8⟩
    have hB8 := belowTo (a := w7) (by go_grown) hb8
    replace Hf := Lib.hid (Hf.out.below hB8)
    clear mm0 mm1 ltm nem
    replace Hm := Lib.hid (Hm.out.below hB8)
    replace Ho := Lib.hid (Ho.out.below hB8)
    obtain ⟨mm0, mm1⟩ := Hm.out.two
    have ltm := Hm.out.1
    have nem := Nat.ne_of_lt ltm
    replace HG := Lib.hid (HG.out.below hB8)
    replace HB := Lib.hid (belowTo HB.out hB8)
    clear hb8 hB8
    go_wp2_with fail
    refine Calls.mono (C7.out _ _ _ (Hf.out.below (by go_grown)) (Ho.out.below (by go_grown)) (HG.out.below (by go_grown))) ?_
    rintro e w9 ⟨rfl, hb9⟩
    have hB9 := belowTo (a := w8) (by go_grown) hb9
    replace Hf := Lib.hid (Hf.out.below hB9)
    clear mm0 mm1 ltm nem
    replace Hm := Lib.hid (Hm.out.below hB9)
    replace Ho := Lib.hid (Ho.out.below hB9)
    obtain ⟨mm0, mm1⟩ := Hm.out.two
    have ltm := Hm.out.1
    have nem := Nat.ne_of_lt ltm
    replace HG := Lib.hid (HG.out.below hB9)
    replace HB := Lib.hid (belowTo HB.out hB9)
    clear hb9 hB9
    go_wp2
    go_returns
    exact ⟨rfl, HB.out⟩
end Go.Proofs.YtgaeibibeekclaaGreatDoor
