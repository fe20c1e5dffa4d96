import Derived.Test.YtcieihbknfeddabDoorQv
import Derived.Test.YtcieihbknfeddabDoorQy
import Derived.Test.YtcieihbknfeddabDoorQl
namespace Go.Proofs.YtcieihbknfeddabDoor
open Go.RowKit

set_option maxHeartbeats 16000000 in
theorem exactDivisorEuler_any (v : Value) (l : List V2) (u1 : Value) (d1 : List Int) (w : World) (h : ReadsVecs w v l) (h1 : ReadsInts w u1 d1) (hg : EtOk w)
    (hl : l.length ≤ 1048576) (k1 : d1.length ≤ 1048576) :
    Calls Tryd.prog 13 #[v, u1] w fun e w' => e = .returned (.bool true) ∧ Below w.heap.size w w' := by
  have h' := h
  obtain ⟨a, c, rfl, _, hm0, _⟩ := h'
  have h1' := h1
  obtain ⟨a1, c1, rfl, _, _⟩ := h1'
  have HZ := Lib.hid (fun w' => szVecS_any a l.length c w' (by omega))
  rw [if_pos hl] at HZ
  have HT := Lib.hid (fun w' h' => toVecS_any (.slice a l.length c) l w' h' hl)
  have HT1 := Lib.hid (fun w' h' => toIntS_any (.slice a1 d1.length c1) d1 w' h' k1)
  have HS := Lib.hid (fun v' w' h' u1' i1' => specDivisorEuler_any v' l u1' d1 w' h' i1')
  have HM := Lib.hid (fun v' w' h' u1' i1' hg' => divisorEuler_any v' l u1' d1 w' h' i1' hg')
  have HX := Lib.hid (fun v1 v2 b1 b2 w' h1 h2 => eqVecS_same v1 v2 b1 b2 l w' h1 h2)
  have HX1 := Lib.hid (fun v1 v2 b1 b2 w' h1 h2 => eqIntS_same v1 v2 b1 b2 d1 w' h1 h2)
  have HR := Lib.hid (fun (w' : World) (b : Nat) (v' : Value) (h' : Vecs w' b v' l) => h'.reads (by omega))
  have HR1 := Lib.hid (fun (w' : World) (b : Nat) (v' : Value) (h' : Ints w' b v' d1) => h'.reads (by omega))
  have HH := Lib.hid h
  have HH0 := Lib.hid h
  have J1 := Lib.hid h1
  have J10 := Lib.hid h1
  have hz0 : ¬ 1048576 - (l.length : Int) < 0 := by omega
  have hy1 : (d1.length : Int) ≤ 1048576 := by omega
  generalize divB l d1 = K at HS HM
  generalize gate K (eulZ l d1 (-1)) = Q at HS HM
  clear h hl hm0 h1 k1
  generalize l.length = n at *
  generalize d1.length = m1 at *
  go_enter Tryd.func13, Tryd.ntmps13
  go_wp2_with fail
  refine Calls.mono (HZ.out _) ?_
  rintro e w0 ⟨rfl, rfl⟩
  have hA : Below w.heap.size w w := Below.refl _ _
  go_wp2_with fail
  refine Calls.mono (HT.out _ HH.out) ?_
  rintro e w1 ⟨va, rfl, Iva, hb1⟩
  replace HH := Lib.hid (HH.out.below hb1)
  replace J1 := Lib.hid (J1.out.below hb1)
  replace Iva := Lib.hid Iva
  replace hA := belowTo hA hb1
  clear hb1
  go_wp2_with fail
  refine Calls.mono (HT1.out _ J1.out) ?_
  rintro e w2 ⟨va1, rfl, Iva1, hb2⟩
  replace HH := Lib.hid (HH.out.below hb2)
  replace J1 := Lib.hid (J1.out.below hb2)
  replace Iva := Lib.hid (Iva.out.below hb2)
  replace Iva1 := Lib.hid Iva1
  replace hA := belowTo hA hb2
  clear hb2
  go_wp2_with fail
  refine Calls.mono (HS.out _ _ (HR.out _ _ _ Iva.out) _ (HR1.out _ _ _ Iva1.out)) ?_
  rintro e w3 ⟨rfl, hb3⟩
  replace HH := Lib.hid (HH.out.below hb3)
  replace J1 := Lib.hid (J1.out.below hb3)
  replace hA := belowTo hA hb3
  clear hb3 Iva Iva1
  go_wp2_with fail
  refine Calls.mono (HT.out _ HH.out) ?_
  rintro e w4 ⟨vx, rfl, Ivx, hb4⟩
  replace HH := Lib.hid (HH.out.below hb4)
  replace J1 := Lib.hid (J1.out.below hb4)
  replace Ivx := Lib.hid Ivx
  replace hA := belowTo hA hb4
  clear hb4
  go_wp2_with fail
  refine Calls.mono (HT1.out _ J1.out) ?_
  rintro e w5 ⟨vx1, rfl, Ivx1, hb5⟩
  replace HH := Lib.hid (HH.out.below hb5)
  replace J1 := Lib.hid (J1.out.below hb5)
  replace Ivx := Lib.hid (Ivx.out.below hb5)
  replace Ivx1 := Lib.hid Ivx1
  replace hA := belowTo hA hb5
  clear hb5
  go_wp2_with fail
  refine Calls.mono (HM.out _ _ (HR.out _ _ _ Ivx.out) _ (HR1.out _ _ _ Ivx1.out) (hg.below hA)) ?_
  rintro e w6 ⟨rfl, hb6⟩
  replace HH := Lib.hid (HH.out.below hb6)
  replace J1 := Lib.hid (J1.out.below hb6)
  replace Ivx := Lib.hid (Ivx.out.below hb6)
  replace Ivx1 := Lib.hid (Ivx1.out.below hb6)
  replace hA := belowTo hA hb6
  clear hb6
  go_wp2_with fail
  refine Calls.mono (HT.out _ HH.out) ?_
  rintro e w7 ⟨vy0, rfl, Iy0, hb7⟩
  replace HH := Lib.hid (HH.out.below hb7)
  replace J1 := Lib.hid (J1.out.below hb7)
  replace Ivx := Lib.hid (Ivx.out.below hb7)
  replace Ivx1 := Lib.hid (Ivx1.out.below hb7)
  replace Iy0 := Lib.hid Iy0
  replace hA := belowTo hA hb7
  clear hb7
  go_wp2_with fail
  refine Calls.mono (HX.out _ _ _ _ _ Ivx.out Iy0.out) ?_
  rintro e w8 ⟨rfl, hb8⟩
  replace HH := Lib.hid (HH.out.below hb8)
  replace J1 := Lib.hid (J1.out.below hb8)
  replace Ivx1 := Lib.hid (Ivx1.out.below hb8)
  replace hA := belowTo hA hb8
  clear hb8 Iy0 Ivx
  go_wp2_with fail
  refine Calls.mono (HT1.out _ J1.out) ?_
  rintro e w9 ⟨vy1, rfl, Iy1, hb9⟩
  replace HH := Lib.hid (HH.out.below hb9)
  replace J1 := Lib.hid (J1.out.below hb9)
  replace Ivx1 := Lib.hid (Ivx1.out.below hb9)
  replace Iy1 := Lib.hid Iy1
  replace hA := belowTo hA hb9
  clear hb9
  go_wp2_with fail
  refine Calls.mono (HX1.out _ _ _ _ _ Ivx1.out Iy1.out) ?_
  rintro e w10 ⟨rfl, hb10⟩
  replace HH := Lib.hid (HH.out.below hb10)
  replace J1 := Lib.hid (J1.out.below hb10)
  replace hA := belowTo hA hb10
  clear hb10 Iy1 Ivx1
  go_wp2
  go_returns
  exact ⟨rfl, hA⟩
set_option maxHeartbeats 4000000 in
theorem exactDivisorEuler_row (a : Option Addr) (len cap : Nat) (a1 : Option Addr) (len1 cap1 : Nat) (w : World) (h : VecRow w a len cap) (h1 : IntRow w a1 len1 cap1) (hg : EtOk w) :
    Calls Tryd.prog 13 #[.slice a len cap, .slice a1 len1 cap1] w fun e w' => e = .returned (.bool true) ∧ Below w.heap.size w w' := by
  by_cases g1 : len1 ≤ 1048576
  case neg =>
    have j1 : (1048576 : Int) < (len1 : Int) := by omega
    clear h hg h1
    go_enter Tryd.func13, Tryd.ntmps13
    go_wp2
    go_returns
    exact ⟨rfl, by go_grown⟩
  case pos =>
    by_cases hl : len ≤ 1048576
    · obtain ⟨l, rfl, hr⟩ := h.reads hl
      obtain ⟨d1, rfl, hr1⟩ := h1.reads g1
      exact exactDivisorEuler_any _ l _ d1 w hr hr1 hg hl g1
    · have HZ := Lib.hid (fun w' => szVecS_any a len cap w' h.le_max)
      rw [if_neg hl] at HZ
      have j1 : (len1 : Int) ≤ 1048576 := by omega
      clear h hg h1
      go_enter Tryd.func13, Tryd.ntmps13
      go_wp2_with fail
      refine Calls.mono (HZ.out _) ?_
      rintro e w1 ⟨rfl, rfl⟩
      go_wp2
      go_returns
      exact ⟨rfl, by go_grown⟩
end Go.Proofs.YtcieihbknfeddabDoor
