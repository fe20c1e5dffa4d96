import Derived.Test.YtcieihbknfeddabDoorBf
import Derived.Test.YtcieihbknfeddabDoorQh
import Derived.Test.YtcieihbknfeddabDoorQl
namespace Go.Proofs.YtcieihbknfeddabDoor
open Go.RowKit

set_option maxHeartbeats 16000000 in
theorem exactDivisorTimes_any (v : Value) (l : List V2) (u1 : Value) (d1 : List Int) (n0 : Int) (w : World) (h : ReadsVecs w v l) (h1 : ReadsInts w u1 d1) (hg : EtOk w)
    (hl : l.length ≤ 1048576) (k1 : d1.length ≤ 1048576) :
    Calls Tryd.prog 6 #[v, u1, .int .i64 n0] w fun e w' => e = .returned (.bool true) ∧ Below w.heap.size w w' := by
  have h' := h
  obtain ⟨a, c, rfl, _, hm0, _⟩ := h'
  have h1' := h1
  obtain ⟨a1, c1, rfl, _, _⟩ := h1'
  have HZ := Lib.hid (fun w' => szVecS_any a l.length c w' (by omega))
  rw [if_pos hl] at HZ
  have HT := Lib.hid (fun w' h' => toVecS_any (.slice a l.length c) l w' h' hl)
  have HT1 := Lib.hid (fun w' h' => toIntS_any (.slice a1 d1.length c1) d1 w' h' k1)
  have HS := Lib.hid (fun v' w' h' u1' i1' => specDivisorTimes_any v' l u1' d1 n0 w' h' i1')
  have HM := Lib.hid (fun v' w' h' u1' i1' hg' => divisorTimes_any v' l u1' d1 n0 w' h' i1' hg')
  have HX := Lib.hid (fun v1 v2 b1 b2 w' h1 h2 => eqVecS_same v1 v2 b1 b2 l w' h1 h2)
  have HX1 := Lib.hid (fun v1 v2 b1 b2 w' h1 h2 => eqIntS_same v1 v2 b1 b2 d1 w' h1 h2)
  have HR := Lib.hid (fun (w' : World) (b : Nat) (v' : Value) (h' : Vecs w' b v' l) => h'.reads (by omega))
  have HR1 := Lib.hid (fun (w' : World) (b : Nat) (v' : Value) (h' : Ints w' b v' d1) => h'.reads (by omega))
  have HH := Lib.hid h
  have HH0 := Lib.hid h
  have J1 := Lib.hid h1
  have J10 := Lib.hid h1
  have hz0 : ¬ 1048576 - (l.length : Int) < 0 := by omega
  have hy1 : (d1.length : Int) ≤ 1048576 := by omega
  have hlen : (gV (timDB l d1 n0) (timesL d1 n0)).length ≤ 1152921504606846976 := gV_len (fun h => by rw [timesL_len]; omega)
  generalize timDB l d1 n0 = K at HS HM hlen
  generalize gV K (timesL d1 n0) = L at HS HM hlen
  have HP := Lib.hid (fun v' b w' h' => markVecS_own v' b l w' h' (by omega))
  have HP1 := Lib.hid (fun v' b w' h' => markIntS_from v' b (1 + l.length * 2) d1 w' h' (by omega) (by omega))
  have HE := Lib.hid (fun v1 v2 b1 b2 w' h1 h2 => eqIntS_same v1 v2 b1 b2 L w' h1 h2)
  have HQ := Lib.hid (fun v' b w' h' => markIntS_own v' b L w' h' hlen)
  have HO := Lib.hid (fun v' b w' h' => heldIntS_own v' b L.length w' h' hlen)
  have hz1 : (0 : Int) ≤ ((1 + l.length * 2 : Nat) : Int) := by omega
  have hz2 : (0 : Int) ≤ ((1 + l.length * 2 + d1.length : Nat) : Int) := by omega
  have hzq : (0 : Int) ≤ ((1 + L.length : Nat) : Int) := by omega
  unfold VMarkedV at HP
  unfold MarkedV at HQ
  generalize ((1 + l.length * 2 + d1.length : Nat) : Int) = z2 at hz2 HP HP1
  generalize ((1 + l.length * 2 : Nat) : Int) = z1 at hz1 HP HP1
  generalize ((1 + L.length : Nat) : Int) = zq at hzq HQ HO
  generalize marks 1 (l.length * 2) = M1 at HP
  generalize marks 1 L.length = M2 at HQ HO
  clear h hl hm0 h1 k1 hlen
  generalize l.length = n at *
  generalize d1.length = m1 at *
  go_enter Tryd.func6, Tryd.ntmps6
  go_wp2_with fail
  refine Calls.mono (HZ.out _) ?_
  rintro e w0 ⟨rfl, rfl⟩
  have hA : Below w.heap.size w w := Below.refl _ _
  go_wp2_with fail
  refine Calls.mono (HT.out _ HH.out) ?_
  rintro e w1 ⟨va, rfl, Iva, hb1⟩
  replace HH := Lib.hid (HH.out.below hb1)
  replace J1 := Lib.hid (J1.out.below hb1)
  replace Iva := Lib.hid Iva
  replace hA := belowTo hA hb1
  clear hb1
  go_wp2_with fail
  refine Calls.mono (HT1.out _ J1.out) ?_
  rintro e w2 ⟨va1, rfl, Iva1, hb2⟩
  replace HH := Lib.hid (HH.out.below hb2)
  replace J1 := Lib.hid (J1.out.below hb2)
  replace Iva := Lib.hid (Iva.out.below hb2)
  replace Iva1 := Lib.hid Iva1
  replace hA := belowTo hA hb2
  clear hb2
  go_wp2_with fail
  refine Calls.mono (HS.out _ _ (HR.out _ _ _ Iva.out) _ (HR1.out _ _ _ Iva1.out)) ?_
  rintro e w3 ⟨v0, rfl, I0, hb3⟩
  have B0 := Lib.hid (fun k hk => (I0.block k hk).2)
  replace HH := Lib.hid (HH.out.below hb3)
  replace J1 := Lib.hid (J1.out.below hb3)
  replace I0 := Lib.hid I0
  replace hA := belowTo hA hb3
  clear hb3 Iva Iva1
  have hwx := hA.size
  go_wp2_with fail
  refine Calls.mono (HT.out _ HH.out) ?_
  rintro e w4 ⟨vx, rfl, Ivx, hb4⟩
  have Bvx := Lib.hid (fun k hk => (Ivx.block k hk))
  have hs4 := hb4.size
  replace HH := Lib.hid (HH.out.below hb4)
  replace J1 := Lib.hid (J1.out.below hb4)
  replace I0 := Lib.hid (I0.out.below hb4)
  replace Ivx := Lib.hid Ivx
  replace hA := belowTo hA hb4
  clear hb4
  have hwvx1 := hA.size
  go_wp2_with fail
  refine Calls.mono (HT1.out _ J1.out) ?_
  rintro e w5 ⟨vx1, rfl, Ivx1, hb5⟩
  have Bvx1 := Lib.hid (fun k hk => (Ivx1.block k hk))
  have hs5 := hb5.size
  replace HH := Lib.hid (HH.out.below hb5)
  replace J1 := Lib.hid (J1.out.below hb5)
  replace I0 := Lib.hid (I0.out.below hb5)
  replace Ivx := Lib.hid (Ivx.out.below hb5)
  replace Ivx1 := Lib.hid Ivx1
  replace hA := belowTo hA hb5
  clear hb5
  have hwg := hA.size
  go_wp2_with fail
  refine Calls.mono (HM.out _ _ (HR.out _ _ _ Ivx.out) _ (HR1.out _ _ _ Ivx1.out) (hg.below hA)) ?_
  rintro e w6 ⟨vg, rfl, IG, hb6⟩
  have BG := Lib.hid (fun k hk => (IG.block k hk))
  have hs6 := hb6.size
  replace HH := Lib.hid (HH.out.below hb6)
  replace J1 := Lib.hid (J1.out.below hb6)
  replace I0 := Lib.hid (I0.out.below hb6)
  replace Ivx := Lib.hid (Ivx.out.below hb6)
  replace Ivx1 := Lib.hid (Ivx1.out.below hb6)
  replace IG := Lib.hid IG
  replace hA := belowTo hA hb6
  clear hb6
  go_wp2_with fail
  refine Calls.mono (HE.out _ _ _ _ _ IG.out I0.out) ?_
  rintro e w7 ⟨rfl, hb7⟩
  have hs7 := hb7.size
  replace HH := Lib.hid (HH.out.below hb7)
  replace J1 := Lib.hid (J1.out.below hb7)
  replace I0 := Lib.hid (I0.out.below hb7)
  replace Ivx := Lib.hid (Ivx.out.below hb7)
  replace Ivx1 := Lib.hid (Ivx1.out.below hb7)
  replace IG := Lib.hid (IG.out.below hb7)
  replace hA := belowTo hA hb7
  clear hb7
  go_wp2_with fail
  refine Calls.mono (HT.out _ HH.out) ?_
  rintro e w8 ⟨vy0, rfl, Iy0, hb8⟩
  have hs8 := hb8.size
  replace HH := Lib.hid (HH.out.below hb8)
  replace J1 := Lib.hid (J1.out.below hb8)
  replace I0 := Lib.hid (I0.out.below hb8)
  replace Ivx := Lib.hid (Ivx.out.below hb8)
  replace Ivx1 := Lib.hid (Ivx1.out.below hb8)
  replace IG := Lib.hid (IG.out.below hb8)
  replace Iy0 := Lib.hid Iy0
  replace hA := belowTo hA hb8
  clear hb8
  go_wp2_with fail
  refine Calls.mono (HX.out _ _ _ _ _ Ivx.out Iy0.out) ?_
  rintro e w9 ⟨rfl, hb9⟩
  have hs9 := hb9.size
  replace HH := Lib.hid (HH.out.below hb9)
  replace J1 := Lib.hid (J1.out.below hb9)
  replace I0 := Lib.hid (I0.out.below hb9)
  replace Ivx := Lib.hid (Ivx.out.below hb9)
  replace Ivx1 := Lib.hid (Ivx1.out.below hb9)
  replace IG := Lib.hid (IG.out.below hb9)
  replace hA := belowTo hA hb9
  clear hb9 Iy0
  go_wp2_with fail
  refine Calls.mono (HT1.out _ J1.out) ?_
  rintro e w10 ⟨vy1, rfl, Iy1, hb10⟩
  have hs10 := hb10.size
  replace HH := Lib.hid (HH.out.below hb10)
  replace J1 := Lib.hid (J1.out.below hb10)
  replace I0 := Lib.hid (I0.out.below hb10)
  replace Ivx := Lib.hid (Ivx.out.below hb10)
  replace Ivx1 := Lib.hid (Ivx1.out.below hb10)
  replace IG := Lib.hid (IG.out.below hb10)
  replace Iy1 := Lib.hid Iy1
  replace hA := belowTo hA hb10
  clear hb10
  go_wp2_with fail
  refine Calls.mono (HX1.out _ _ _ _ _ Ivx1.out Iy1.out) ?_
  rintro e w11 ⟨rfl, hb11⟩
  have hs11 := hb11.size
  replace HH := Lib.hid (HH.out.below hb11)
  replace J1 := Lib.hid (J1.out.below hb11)
  replace I0 := Lib.hid (I0.out.below hb11)
  replace Ivx := Lib.hid (Ivx.out.below hb11)
  replace Ivx1 := Lib.hid (Ivx1.out.below hb11)
  replace IG := Lib.hid (IG.out.below hb11)
  replace hA := belowTo hA hb11
  clear hb11 Iy1
  go_wp2_with fail
  refine Calls.mono (HP.out vx _ _ Ivx.out) ?_
  rintro e w12 ⟨rfl, _, hG⟩
  have hb12 := grown_below (b := w3.heap.size) hG (by omega) (fun k hk => (Bvx.out k hk).1)
  have hs12 := hb12.size
  replace I0 := Lib.hid (I0.out.far hG (fun k hk e => by have := B0.out k hk; have := (Bvx.out k e).1; omega))
  replace IG := Lib.hid (IG.out.far hG (fun k hk e => by have := (BG.out k hk).1; have := (Bvx.out k e).2; omega))
  replace Ivx1 := Lib.hid (Ivx1.out.far hG (fun k hk e => by have := (Bvx1.out k hk).1; have := (Bvx.out k e).2; omega))
  replace hA := hA.trans (hb12.mono hwx)
  replace HH := Lib.hid (HH0.out.below hA)
  replace J1 := Lib.hid (J10.out.below hA)
  clear hb12 hG Ivx
  go_wp2_with fail
  refine Calls.mono (HP1.out vx1 _ _ Ivx1.out) ?_
  rintro e w13 ⟨rfl, hG⟩
  have hb13 := grown_below (b := w4.heap.size) hG (by omega) (fun k hk => (Bvx1.out k hk).1)
  have hs13 := hb13.size
  replace I0 := Lib.hid (I0.out.far hG (fun k hk e => by have := B0.out k hk; have := (Bvx1.out k e).1; omega))
  replace IG := Lib.hid (IG.out.far hG (fun k hk e => by have := (BG.out k hk).1; have := (Bvx1.out k e).2; omega))
  replace hA := hA.trans (hb13.mono hwvx1)
  replace HH := Lib.hid (HH0.out.below hA)
  replace J1 := Lib.hid (J10.out.below hA)
  clear hb13 hG Ivx1
  go_wp2_with fail
  refine Calls.mono (HE.out _ _ _ _ _ IG.out I0.out) ?_
  rintro e w14 ⟨rfl, hb14⟩
  have hs14 := hb14.size
  replace HH := Lib.hid (HH.out.below hb14)
  replace J1 := Lib.hid (J1.out.below hb14)
  replace I0 := Lib.hid (I0.out.below hb14)
  replace IG := Lib.hid (IG.out.below hb14)
  replace hA := belowTo hA hb14
  clear hb14
  go_wp2_with fail
  refine Calls.mono (HQ.out vg _ _ IG.out) ?_
  rintro e w15 ⟨rfl, MG, hG⟩
  have hb15 := grown_below (b := w5.heap.size) hG (by omega) (fun k hk => (BG.out k hk).1)
  replace I0 := Lib.hid (I0.out.far hG (fun k hk e => by have := B0.out k hk; have := (BG.out k e).1; omega))
  replace MG := Lib.hid MG
  replace hA := hA.trans (hb15.mono hwg)
  replace HH := Lib.hid (HH0.out.below hA)
  replace J1 := Lib.hid (J10.out.below hA)
  clear hb15 hG IG B0 BG Bvx Bvx1 hs4 hs5 hs6 hs7 hs8 hs9 hs10 hs11 hs12 hs13 hs14 hwg hwvx1 hwx
  go_wp2_with fail
  refine Calls.mono (HO.out _ _ _ MG.out) ?_
  rintro e wq ⟨rfl, rfl⟩
  go_wp2_with fail
  refine Calls.mono (HT.out _ HH.out) ?_
  rintro e w16 ⟨vz, rfl, Ivz, hb16⟩
  replace HH := Lib.hid (HH.out.below hb16)
  replace J1 := Lib.hid (J1.out.below hb16)
  replace I0 := Lib.hid (I0.out.below hb16)
  replace MG := Lib.hid (MG.out.below hb16)
  replace Ivz := Lib.hid Ivz
  replace hA := belowTo hA hb16
  clear hb16
  go_wp2_with fail
  refine Calls.mono (HT1.out _ J1.out) ?_
  rintro e w17 ⟨vz1, rfl, Ivz1, hb17⟩
  replace HH := Lib.hid (HH.out.below hb17)
  replace J1 := Lib.hid (J1.out.below hb17)
  replace I0 := Lib.hid (I0.out.below hb17)
  replace MG := Lib.hid (MG.out.below hb17)
  replace Ivz := Lib.hid (Ivz.out.below hb17)
  replace Ivz1 := Lib.hid Ivz1
  replace hA := belowTo hA hb17
  clear hb17
  go_wp2_with fail
  refine Calls.mono (HM.out _ _ (HR.out _ _ _ Ivz.out) _ (HR1.out _ _ _ Ivz1.out) (hg.below hA)) ?_
  rintro e w18 ⟨vh, rfl, IK, hb18⟩
  replace HH := Lib.hid (HH.out.below hb18)
  replace J1 := Lib.hid (J1.out.below hb18)
  replace I0 := Lib.hid (I0.out.below hb18)
  replace MG := Lib.hid (MG.out.below hb18)
  replace IK := Lib.hid IK
  replace hA := belowTo hA hb18
  clear hb18 Ivz Ivz1
  go_wp2_with fail
  refine Calls.mono (HE.out _ _ _ _ _ IK.out I0.out) ?_
  rintro e w19 ⟨rfl, hb19⟩
  replace HH := Lib.hid (HH.out.below hb19)
  replace J1 := Lib.hid (J1.out.below hb19)
  replace MG := Lib.hid (MG.out.below hb19)
  replace hA := belowTo hA hb19
  clear hb19 IK I0
  go_wp2_with fail
  refine Calls.mono (HO.out _ _ _ MG.out) ?_
  rintro e wr ⟨rfl, rfl⟩
  go_wp2
  go_returns
  exact ⟨rfl, hA⟩
set_option maxHeartbeats 4000000 in
theorem exactDivisorTimes_row (a : Option Addr) (len cap : Nat) (a1 : Option Addr) (len1 cap1 : Nat) (n0 : Int) (w : World) (h : VecRow w a len cap) (h1 : IntRow w a1 len1 cap1) (hg : EtOk w) :
    Calls Tryd.prog 6 #[.slice a len cap, .slice a1 len1 cap1, .int .i64 n0] w fun e w' => e = .returned (.bool true) ∧ Below w.heap.size w w' := by
  by_cases g1 : len1 ≤ 1048576
  case neg =>
    have j1 : (1048576 : Int) < (len1 : Int) := by omega
    clear h hg h1
    go_enter Tryd.func6, Tryd.ntmps6
    go_wp2
    go_returns
    exact ⟨rfl, by go_grown⟩
  case pos =>
    by_cases hl : len ≤ 1048576
    · obtain ⟨l, rfl, hr⟩ := h.reads hl
      obtain ⟨d1, rfl, hr1⟩ := h1.reads g1
      exact exactDivisorTimes_any _ l _ d1 n0 w hr hr1 hg hl g1
    · have HZ := Lib.hid (fun w' => szVecS_any a len cap w' h.le_max)
      rw [if_neg hl] at HZ
      have j1 : (len1 : Int) ≤ 1048576 := by omega
      clear h hg h1
      go_enter Tryd.func6, Tryd.ntmps6
      go_wp2_with fail
      refine Calls.mono (HZ.out _) ?_
      rintro e w1 ⟨rfl, rfl⟩
      go_wp2
      go_returns
      exact ⟨rfl, by go_grown⟩
end Go.Proofs.YtcieihbknfeddabDoor
