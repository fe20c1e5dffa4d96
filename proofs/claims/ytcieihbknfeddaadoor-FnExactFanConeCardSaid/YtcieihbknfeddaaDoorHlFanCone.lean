import Derived.Test.YtcieihbknfeddaaDoorGz
import Derived.Test.YtcieihbknfeddaaDoorI1
import Derived.Test.YtcieihbknfeddaaDoorBl
namespace Go.Proofs.YtcieihbknfeddaaDoor
open Go.RowKit

set_option maxHeartbeats 8000000 in
theorem exactFanCone_any (v : Value) (l : List V2) (i : Int) (w : World) (h : ReadsVecs w v l) (hg : EtOk w) :
    Calls Tryd.prog 8 #[v, .int .i64 i] w fun e w' => e = .returned (.bool true) ∧ Below w.heap.size w w' := by
  have h' := h
  obtain ⟨a, c, rfl, _, hm0, _⟩ := h'
  have HZ := Lib.hid (fun w' => szVecS_any a l.length c w' (by omega))
  by_cases hl : l.length ≤ 1048576
  case neg =>
    rw [if_neg hl] at HZ
    clear h
    go_enter Tryd.func8, Tryd.ntmps8
    go_wp2_with fail
    refine Calls.mono (HZ.out _) ?_
    rintro e w1 ⟨rfl, rfl⟩
    go_wp2
    go_returns
    exact ⟨rfl, by go_grown⟩
  case pos =>
    rw [if_pos hl] at HZ
    have HT := Lib.hid (fun w' h' => toVecS_any (.slice a l.length c) l w' h' hl)
    have HS := Lib.hid (fun v' w' h' => specFanCone_any v' l i w' h')
    have HM := Lib.hid (fun v' w' h' hg' => fanCone_any v' l i w' h' hg')
    have HX := Lib.hid (fun v1 v2 b1 b2 w' h1 h2 => eqVecS_same v1 v2 b1 b2 l w' h1 h2)
    have HR := Lib.hid (fun (w' : World) (b : Nat) (v' : Value) (h' : Vecs w' b v' l) => h'.reads (by omega))
    have HH := Lib.hid h
    have hz0 : ¬ 1048576 - (l.length : Int) < 0 := by omega
    generalize (fanB l && idxB l i) = K at HS HM
    generalize gate K (cyc l i.toNat).1 = q0 at HS HM
    generalize gate K (cyc l i.toNat).2 = q1 at HS HM
    generalize gate K (cyc l (i.toNat + 1)).1 = q2 at HS HM
    generalize gate K (cyc l (i.toNat + 1)).2 = q3 at HS HM
    have HCq := Lib.hid (fun w' => eqCone_same q0 q1 q2 q3 w')
    generalize l.length = n at *
    clear h hl hm0
    go_enter Tryd.func8, Tryd.ntmps8
    go_wp2_with fail
    refine Calls.mono (HZ.out _) ?_
    rintro e w0 ⟨rfl, rfl⟩
    have hA : Below w.heap.size w w := Below.refl _ _
    go_wp2_with fail
    refine Calls.mono (HT.out _ HH.out) ?_
    rintro e w1 ⟨v1, rfl, Iv1, hb1⟩
    replace HH := Lib.hid (HH.out.below hb1)
    replace Iv1 := Lib.hid Iv1
    replace hA := belowTo hA hb1
    clear hb1
    go_wp2_with fail
    refine Calls.mono (HS.out _ _ (HR.out _ _ _ Iv1.out)) ?_
    rintro e w2 ⟨rfl, hb2⟩
    replace HH := Lib.hid (HH.out.below hb2)
    replace hA := belowTo hA hb2
    clear hb2 Iv1
    go_wp2_with fail
    have hz1 : Below w2.heap.size w2 (w2.alloc (.cells #[.int .i64 q0, .int .i64 q1, .int .i64 q2, .int .i64 q3] 47)) := by go_grown
    replace HH := Lib.hid (HH.out.below hz1)
    have e1_0 : (w2.alloc (.cells #[.int .i64 q0, .int .i64 q1, .int .i64 q2, .int .i64 q3] 47)).cell? ⟨w2.heap.size, 0, none⟩ = some (.int .i64 q0) := by simp
    have e1_1 : (w2.alloc (.cells #[.int .i64 q0, .int .i64 q1, .int .i64 q2, .int .i64 q3] 47)).cell? ⟨w2.heap.size, 1, none⟩ = some (.int .i64 q1) := by simp
    have e1_2 : (w2.alloc (.cells #[.int .i64 q0, .int .i64 q1, .int .i64 q2, .int .i64 q3] 47)).cell? ⟨w2.heap.size, 2, none⟩ = some (.int .i64 q2) := by simp
    have e1_3 : (w2.alloc (.cells #[.int .i64 q0, .int .i64 q1, .int .i64 q2, .int .i64 q3] 47)).cell? ⟨w2.heap.size, 3, none⟩ = some (.int .i64 q3) := by simp
    have f1 : w2.heap.size < (w2.alloc (.cells #[.int .i64 q0, .int .i64 q1, .int .i64 q2, .int .i64 q3] 47)).heap.size := by simp only [World.size_alloc]; omega
    replace hA := belowTo hA hz1
    clear hz1
    generalize (w2.alloc (.cells #[.int .i64 q0, .int .i64 q1, .int .i64 q2, .int .i64 q3] 47)) = wa1 at *
    refine Calls.mono (HT.out _ HH.out) ?_
    rintro e w3 ⟨vx, rfl, Ivx, hb3⟩
    replace HH := Lib.hid (HH.out.below hb3)
    replace e1_0 := (hb3.cell (p := ⟨w2.heap.size, 0, none⟩) f1).trans e1_0
    replace e1_1 := (hb3.cell (p := ⟨w2.heap.size, 1, none⟩) f1).trans e1_1
    replace e1_2 := (hb3.cell (p := ⟨w2.heap.size, 2, none⟩) f1).trans e1_2
    replace e1_3 := (hb3.cell (p := ⟨w2.heap.size, 3, none⟩) f1).trans e1_3
    replace f1 := Nat.lt_of_lt_of_le f1 hb3.size
    replace Ivx := Lib.hid Ivx
    replace hA := belowTo hA hb3
    clear hb3
    go_wp2_with fail
    refine Calls.mono (HM.out _ _ (HR.out _ _ _ Ivx.out) (hg.below hA)) ?_
    rintro e w4 ⟨rfl, hb4⟩
    replace HH := Lib.hid (HH.out.below hb4)
    replace Ivx := Lib.hid (Ivx.out.below hb4)
    replace e1_0 := (hb4.cell (p := ⟨w2.heap.size, 0, none⟩) f1).trans e1_0
    replace e1_1 := (hb4.cell (p := ⟨w2.heap.size, 1, none⟩) f1).trans e1_1
    replace e1_2 := (hb4.cell (p := ⟨w2.heap.size, 2, none⟩) f1).trans e1_2
    replace e1_3 := (hb4.cell (p := ⟨w2.heap.size, 3, none⟩) f1).trans e1_3
    replace f1 := Nat.lt_of_lt_of_le f1 hb4.size
    replace hA := belowTo hA hb4
    clear hb4
    go_wp2_with fail
    have hz2 : Below w4.heap.size w4 (w4.alloc (.cells #[.int .i64 q0, .int .i64 q1, .int .i64 q2, .int .i64 q3] 47)) := by go_grown
    replace HH := Lib.hid (HH.out.below hz2)
    replace Ivx := Lib.hid (Ivx.out.below hz2)
    replace e1_0 := (hz2.cell (p := ⟨w2.heap.size, 0, none⟩) f1).trans e1_0
    replace e1_1 := (hz2.cell (p := ⟨w2.heap.size, 1, none⟩) f1).trans e1_1
    replace e1_2 := (hz2.cell (p := ⟨w2.heap.size, 2, none⟩) f1).trans e1_2
    replace e1_3 := (hz2.cell (p := ⟨w2.heap.size, 3, none⟩) f1).trans e1_3
    replace f1 := Nat.lt_of_lt_of_le f1 hz2.size
    have e2_0 : (w4.alloc (.cells #[.int .i64 q0, .int .i64 q1, .int .i64 q2, .int .i64 q3] 47)).cell? ⟨w4.heap.size, 0, none⟩ = some (.int .i64 q0) := by simp
    have e2_1 : (w4.alloc (.cells #[.int .i64 q0, .int .i64 q1, .int .i64 q2, .int .i64 q3] 47)).cell? ⟨w4.heap.size, 1, none⟩ = some (.int .i64 q1) := by simp
    have e2_2 : (w4.alloc (.cells #[.int .i64 q0, .int .i64 q1, .int .i64 q2, .int .i64 q3] 47)).cell? ⟨w4.heap.size, 2, none⟩ = some (.int .i64 q2) := by simp
    have e2_3 : (w4.alloc (.cells #[.int .i64 q0, .int .i64 q1, .int .i64 q2, .int .i64 q3] 47)).cell? ⟨w4.heap.size, 3, none⟩ = some (.int .i64 q3) := by simp
    have f2 : w4.heap.size < (w4.alloc (.cells #[.int .i64 q0, .int .i64 q1, .int .i64 q2, .int .i64 q3] 47)).heap.size := by simp only [World.size_alloc]; omega
    replace hA := belowTo hA hz2
    clear hz2
    generalize (w4.alloc (.cells #[.int .i64 q0, .int .i64 q1, .int .i64 q2, .int .i64 q3] 47)) = wa2 at *
    refine Calls.mono (HCq.out _) ?_
    rintro e w5 ⟨rfl, hb5⟩
    replace HH := Lib.hid (HH.out.below hb5)
    replace Ivx := Lib.hid (Ivx.out.below hb5)
    replace e1_0 := (hb5.cell (p := ⟨w2.heap.size, 0, none⟩) f1).trans e1_0
    replace e1_1 := (hb5.cell (p := ⟨w2.heap.size, 1, none⟩) f1).trans e1_1
    replace e1_2 := (hb5.cell (p := ⟨w2.heap.size, 2, none⟩) f1).trans e1_2
    replace e1_3 := (hb5.cell (p := ⟨w2.heap.size, 3, none⟩) f1).trans e1_3
    replace f1 := Nat.lt_of_lt_of_le f1 hb5.size
    replace e2_0 := (hb5.cell (p := ⟨w4.heap.size, 0, none⟩) f2).trans e2_0
    replace e2_1 := (hb5.cell (p := ⟨w4.heap.size, 1, none⟩) f2).trans e2_1
    replace e2_2 := (hb5.cell (p := ⟨w4.heap.size, 2, none⟩) f2).trans e2_2
    replace e2_3 := (hb5.cell (p := ⟨w4.heap.size, 3, none⟩) f2).trans e2_3
    replace f2 := Nat.lt_of_lt_of_le f2 hb5.size
    replace hA := belowTo hA hb5
    clear hb5
    go_wp2_with fail
    refine Calls.mono (HT.out _ HH.out) ?_
    rintro e w6 ⟨v6, rfl, I6, hb6⟩
    replace HH := Lib.hid (HH.out.below hb6)
    replace Ivx := Lib.hid (Ivx.out.below hb6)
    replace I6 := Lib.hid I6
    replace hA := belowTo hA hb6
    clear hb6
    go_wp2_with fail
    refine Calls.mono (HX.out _ _ _ _ _ Ivx.out I6.out) ?_
    rintro e w7 ⟨rfl, hb7⟩
    replace HH := Lib.hid (HH.out.below hb7)
    replace Ivx := Lib.hid (Ivx.out.below hb7)
    replace hA := belowTo hA hb7
    clear hb7 I6
    go_wp2
    go_returns
    exact ⟨rfl, hA⟩
set_option maxHeartbeats 4000000 in
theorem exactFanCone_row (a : Option Addr) (len cap : Nat) (i : Int) (w : World) (h : VecRow w a len cap) (hg : EtOk w) :
    Calls Tryd.prog 8 #[.slice a len cap, .int .i64 i] w fun e w' => e = .returned (.bool true) ∧ Below w.heap.size w w' := by
  by_cases hl : len ≤ 1048576
  · obtain ⟨l, rfl, hr⟩ := h.reads hl
    exact exactFanCone_any _ l i w hr hg
  · have HZ := Lib.hid (fun w' => szVecS_any a len cap w' h.le_max)
    rw [if_neg hl] at HZ
    clear h
    go_enter Tryd.func8, Tryd.ntmps8
    go_wp2_with fail
    refine Calls.mono (HZ.out _) ?_
    rintro e w1 ⟨rfl, rfl⟩
    go_wp2
    go_returns
    exact ⟨rfl, by go_grown⟩
end Go.Proofs.YtcieihbknfeddaaDoor
