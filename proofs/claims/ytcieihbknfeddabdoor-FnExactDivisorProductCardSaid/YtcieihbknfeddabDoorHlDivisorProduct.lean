import Derived.Test.YtcieihbknfeddabDoorBf
import Derived.Test.YtcieihbknfeddabDoorBe
import Derived.Test.YtcieihbknfeddabDoorQl
namespace Go.Proofs.YtcieihbknfeddabDoor
open Go.RowKit

set_option maxHeartbeats 16000000 in
theorem exactDivisorProduct_any (v : Value) (l : List V2) (u1 u2 : Value) (d1 d2 : List Int) (w : World) (h : ReadsVecs w v l) (h1 : ReadsInts w u1 d1) (h2 : ReadsInts w u2 d2) (hg : EtOk w)
    (hl : l.length ≤ 1048576) (k1 : d1.length ≤ 1048576) (k2 : d2.length ≤ 1048576) :
    Calls Tryd.prog 7 #[v, u1, u2] w fun e w' => e = .returned (.bool true) ∧ Below w.heap.size w w' := by
  have h' := h
  obtain ⟨a, c, rfl, _, hm0, _⟩ := h'
  have h1' := h1
  obtain ⟨a1, c1, rfl, _, _⟩ := h1'
  have h2' := h2
  obtain ⟨a2, c2, rfl, _, _⟩ := h2'
  have HZ := Lib.hid (fun w' => szVecS_any a l.length c w' (by omega))
  rw [if_pos hl] at HZ
  have HT := Lib.hid (fun w' h' => toVecS_any (.slice a l.length c) l w' h' hl)
  have HT1 := Lib.hid (fun w' h' => toIntS_any (.slice a1 d1.length c1) d1 w' h' k1)
  have HT2 := Lib.hid (fun w' h' => toIntS_any (.slice a2 d2.length c2) d2 w' h' k2)
  have HS := Lib.hid (fun v' w' h' u1' i1' u2' i2' => specDivisorProduct_any v' l u1' d1 u2' d2 w' h' i1' i2')
  have HM := Lib.hid (fun v' w' h' u1' i1' u2' i2' hg' => divisorProduct_any v' l u1' d1 u2' d2 w' h' i1' i2' hg')
  have HX := Lib.hid (fun v1 v2 b1 b2 w' h1 h2 => eqVecS_same v1 v2 b1 b2 l w' h1 h2)
  have HX1 := Lib.hid (fun v1 v2 b1 b2 w' h1 h2 => eqIntS_same v1 v2 b1 b2 d1 w' h1 h2)
  have HX2 := Lib.hid (fun v1 v2 b1 b2 w' h1 h2 => eqIntS_same v1 v2 b1 b2 d2 w' h1 h2)
  have HR := Lib.hid (fun (w' : World) (b : Nat) (v' : Value) (h' : Vecs w' b v' l) => h'.reads (by omega))
  have HR1 := Lib.hid (fun (w' : World) (b : Nat) (v' : Value) (h' : Ints w' b v' d1) => h'.reads (by omega))
  have HR2 := Lib.hid (fun (w' : World) (b : Nat) (v' : Value) (h' : Ints w' b v' d2) => h'.reads (by omega))
  have HH := Lib.hid h
  have HH0 := Lib.hid h
  have J1 := Lib.hid h1
  have J10 := Lib.hid h1
  have J2 := Lib.hid h2
  have J20 := Lib.hid h2
  have hz0 : ¬ 1048576 - (l.length : Int) < 0 := by omega
  have hy1 : (d1.length : Int) ≤ 1048576 := by omega
  have hy2 : (d2.length : Int) ≤ 1048576 := by omega
  generalize (divB l d1 && divB l d2) = K at HS HM
  generalize gate K (prodZ l d1 d2) = Q at HS HM
  clear h hl hm0 h1 k1 h2 k2
  generalize l.length = n at *
  generalize d1.length = m1 at *
  generalize d2.length = m2 at *
  go_enter Tryd.func7, Tryd.ntmps7
  go_wp2_with fail
  refine Calls.mono (HZ.out _) ?_
  rintro e w0 ⟨rfl, rfl⟩
  have hA : Below w.heap.size w w := Below.refl _ _
  go_wp2_with fail
  refine Calls.mono (HT.out _ HH.out) ?_
  rintro e w1 ⟨va, rfl, Iva, hb1⟩
  replace HH := Lib.hid (HH.out.below hb1)
  replace J1 := Lib.hid (J1.out.below hb1)
  replace J2 := Lib.hid (J2.out.below hb1)
  replace Iva := Lib.hid Iva
  replace hA := belowTo hA hb1
  clear hb1
  go_wp2_with fail
  refine Calls.mono (HT1.out _ J1.out) ?_
  rintro e w2 ⟨va1, rfl, Iva1, hb2⟩
  replace HH := Lib.hid (HH.out.below hb2)
  replace J1 := Lib.hid (J1.out.below hb2)
  replace J2 := Lib.hid (J2.out.below hb2)
  replace Iva := Lib.hid (Iva.out.below hb2)
  replace Iva1 := Lib.hid Iva1
  replace hA := belowTo hA hb2
  clear hb2
  go_wp2_with fail
  refine Calls.mono (HT2.out _ J2.out) ?_
  rintro e w3 ⟨va2, rfl, Iva2, hb3⟩
  replace HH := Lib.hid (HH.out.below hb3)
  replace J1 := Lib.hid (J1.out.below hb3)
  replace J2 := Lib.hid (J2.out.below hb3)
  replace Iva := Lib.hid (Iva.out.below hb3)
  replace Iva1 := Lib.hid (Iva1.out.below hb3)
  replace Iva2 := Lib.hid Iva2
  replace hA := belowTo hA hb3
  clear hb3
  go_wp2_with fail
  refine Calls.mono (HS.out _ _ (HR.out _ _ _ Iva.out) _ (HR1.out _ _ _ Iva1.out) _ (HR2.out _ _ _ Iva2.out)) ?_
  rintro e w4 ⟨rfl, hb4⟩
  replace HH := Lib.hid (HH.out.below hb4)
  replace J1 := Lib.hid (J1.out.below hb4)
  replace J2 := Lib.hid (J2.out.below hb4)
  replace hA := belowTo hA hb4
  clear hb4 Iva Iva1 Iva2
  go_wp2_with fail
  refine Calls.mono (HT.out _ HH.out) ?_
  rintro e w5 ⟨vx, rfl, Ivx, hb5⟩
  replace HH := Lib.hid (HH.out.below hb5)
  replace J1 := Lib.hid (J1.out.below hb5)
  replace J2 := Lib.hid (J2.out.below hb5)
  replace Ivx := Lib.hid Ivx
  replace hA := belowTo hA hb5
  clear hb5
  go_wp2_with fail
  refine Calls.mono (HT1.out _ J1.out) ?_
  rintro e w6 ⟨vx1, rfl, Ivx1, hb6⟩
  replace HH := Lib.hid (HH.out.below hb6)
  replace J1 := Lib.hid (J1.out.below hb6)
  replace J2 := Lib.hid (J2.out.below hb6)
  replace Ivx := Lib.hid (Ivx.out.below hb6)
  replace Ivx1 := Lib.hid Ivx1
  replace hA := belowTo hA hb6
  clear hb6
  go_wp2_with fail
  refine Calls.mono (HT2.out _ J2.out) ?_
  rintro e w7 ⟨vx2, rfl, Ivx2, hb7⟩
  replace HH := Lib.hid (HH.out.below hb7)
  replace J1 := Lib.hid (J1.out.below hb7)
  replace J2 := Lib.hid (J2.out.below hb7)
  replace Ivx := Lib.hid (Ivx.out.below hb7)
  replace Ivx1 := Lib.hid (Ivx1.out.below hb7)
  replace Ivx2 := Lib.hid Ivx2
  replace hA := belowTo hA hb7
  clear hb7
  go_wp2_with fail
  refine Calls.mono (HM.out _ _ (HR.out _ _ _ Ivx.out) _ (HR1.out _ _ _ Ivx1.out) _ (HR2.out _ _ _ Ivx2.out) (hg.below hA)) ?_
  rintro e w8 ⟨rfl, hb8⟩
  replace HH := Lib.hid (HH.out.below hb8)
  replace J1 := Lib.hid (J1.out.below hb8)
  replace J2 := Lib.hid (J2.out.below hb8)
  replace Ivx := Lib.hid (Ivx.out.below hb8)
  replace Ivx1 := Lib.hid (Ivx1.out.below hb8)
  replace Ivx2 := Lib.hid (Ivx2.out.below hb8)
  replace hA := belowTo hA hb8
  clear hb8
  go_wp2_with fail
  refine Calls.mono (HT.out _ HH.out) ?_
  rintro e w9 ⟨vy0, rfl, Iy0, hb9⟩
  replace HH := Lib.hid (HH.out.below hb9)
  replace J1 := Lib.hid (J1.out.below hb9)
  replace J2 := Lib.hid (J2.out.below hb9)
  replace Ivx := Lib.hid (Ivx.out.below hb9)
  replace Ivx1 := Lib.hid (Ivx1.out.below hb9)
  replace Ivx2 := Lib.hid (Ivx2.out.below hb9)
  replace Iy0 := Lib.hid Iy0
  replace hA := belowTo hA hb9
  clear hb9
  go_wp2_with fail
  refine Calls.mono (HX.out _ _ _ _ _ Ivx.out Iy0.out) ?_
  rintro e w10 ⟨rfl, hb10⟩
  replace HH := Lib.hid (HH.out.below hb10)
  replace J1 := Lib.hid (J1.out.below hb10)
  replace J2 := Lib.hid (J2.out.below hb10)
  replace Ivx1 := Lib.hid (Ivx1.out.below hb10)
  replace Ivx2 := Lib.hid (Ivx2.out.below hb10)
  replace hA := belowTo hA hb10
  clear hb10 Iy0 Ivx
  go_wp2_with fail
  refine Calls.mono (HT1.out _ J1.out) ?_
  rintro e w11 ⟨vy1, rfl, Iy1, hb11⟩
  replace HH := Lib.hid (HH.out.below hb11)
  replace J1 := Lib.hid (J1.out.below hb11)
  replace J2 := Lib.hid (J2.out.below hb11)
  replace Ivx1 := Lib.hid (Ivx1.out.below hb11)
  replace Ivx2 := Lib.hid (Ivx2.out.below hb11)
  replace Iy1 := Lib.hid Iy1
  replace hA := belowTo hA hb11
  clear hb11
  go_wp2_with fail
  refine Calls.mono (HX1.out _ _ _ _ _ Ivx1.out Iy1.out) ?_
  rintro e w12 ⟨rfl, hb12⟩
  replace HH := Lib.hid (HH.out.below hb12)
  replace J1 := Lib.hid (J1.out.below hb12)
  replace J2 := Lib.hid (J2.out.below hb12)
  replace Ivx2 := Lib.hid (Ivx2.out.below hb12)
  replace hA := belowTo hA hb12
  clear hb12 Iy1 Ivx1
  go_wp2_with fail
  refine Calls.mono (HT2.out _ J2.out) ?_
  rintro e w13 ⟨vy2, rfl, Iy2, hb13⟩
  replace HH := Lib.hid (HH.out.below hb13)
  replace J1 := Lib.hid (J1.out.below hb13)
  replace J2 := Lib.hid (J2.out.below hb13)
  replace Ivx2 := Lib.hid (Ivx2.out.below hb13)
  replace Iy2 := Lib.hid Iy2
  replace hA := belowTo hA hb13
  clear hb13
  go_wp2_with fail
  refine Calls.mono (HX2.out _ _ _ _ _ Ivx2.out Iy2.out) ?_
  rintro e w14 ⟨rfl, hb14⟩
  replace HH := Lib.hid (HH.out.below hb14)
  replace J1 := Lib.hid (J1.out.below hb14)
  replace J2 := Lib.hid (J2.out.below hb14)
  replace hA := belowTo hA hb14
  clear hb14 Iy2 Ivx2
  go_wp2
  go_returns
  exact ⟨rfl, hA⟩
set_option maxHeartbeats 4000000 in
theorem exactDivisorProduct_row (a : Option Addr) (len cap : Nat) (a1 : Option Addr) (len1 cap1 : Nat) (a2 : Option Addr) (len2 cap2 : Nat) (w : World) (h : VecRow w a len cap) (h1 : IntRow w a1 len1 cap1) (h2 : IntRow w a2 len2 cap2) (hg : EtOk w) :
    Calls Tryd.prog 7 #[.slice a len cap, .slice a1 len1 cap1, .slice a2 len2 cap2] w fun e w' => e = .returned (.bool true) ∧ Below w.heap.size w w' := by
  by_cases g1 : len1 ≤ 1048576
  case neg =>
    have j1 : (1048576 : Int) < (len1 : Int) := by omega
    clear h hg h1 h2
    go_enter Tryd.func7, Tryd.ntmps7
    go_wp2
    go_returns
    exact ⟨rfl, by go_grown⟩
  case pos =>
    by_cases g2 : len2 ≤ 1048576
    case neg =>
      have j2 : (1048576 : Int) < (len2 : Int) := by omega
      have j1 : (len1 : Int) ≤ 1048576 := by omega
      clear h hg h1 h2
      go_enter Tryd.func7, Tryd.ntmps7
      go_wp2
      go_returns
      exact ⟨rfl, by go_grown⟩
    case pos =>
      by_cases hl : len ≤ 1048576
      · obtain ⟨l, rfl, hr⟩ := h.reads hl
        obtain ⟨d1, rfl, hr1⟩ := h1.reads g1
        obtain ⟨d2, rfl, hr2⟩ := h2.reads g2
        exact exactDivisorProduct_any _ l _ _ d1 d2 w hr hr1 hr2 hg hl g1 g2
      · have HZ := Lib.hid (fun w' => szVecS_any a len cap w' h.le_max)
        rw [if_neg hl] at HZ
        have j1 : (len1 : Int) ≤ 1048576 := by omega
        have j2 : (len2 : Int) ≤ 1048576 := by omega
        clear h hg h1 h2
        go_enter Tryd.func7, Tryd.ntmps7
        go_wp2_with fail
        refine Calls.mono (HZ.out _) ?_
        rintro e w1 ⟨rfl, rfl⟩
        go_wp2
        go_returns
        exact ⟨rfl, by go_grown⟩
end Go.Proofs.YtcieihbknfeddabDoor
