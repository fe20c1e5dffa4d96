import Derived.Test.YtcieihbknfeddabDoorBf
import Derived.Test.YtcieihbknfeddabDoorQh
import Derived.Test.YtcieihbknfeddabDoorQl
namespace Go.Proofs.YtcieihbknfeddabDoor
open Go.RowKit

set_option maxHeartbeats 16000000 in
theorem exactDivisorAdd_any (v : Value) (l : List V2) (u1 u2 : Value) (d1 d2 : List Int) (w : World) (h : ReadsVecs w v l) (h1 : ReadsInts w u1 d1) (h2 : ReadsInts w u2 d2) (hg : EtOk w)
    (hl : l.length ≤ 1048576) (k1 : d1.length ≤ 1048576) (k2 : d2.length ≤ 1048576) :
    Calls Tryd.prog 5 #[v, u1, u2] w fun e w' => e = .returned (.bool true) ∧ Below w.heap.size w w' := by
  have h' := h
  obtain ⟨a, c, rfl, _, hm0, _⟩ := h'
  have h1' := h1
  obtain ⟨a1, c1, rfl, _, _⟩ := h1'
  have h2' := h2
  obtain ⟨a2, c2, rfl, _, _⟩ := h2'
  have HZ := Lib.hid (fun w' => szVecS_any a l.length c w' (by omega))
  rw [if_pos hl] at HZ
  have HT := Lib.hid (fun w' h' => toVecS_any (.slice a l.length c) l w' h' hl)
  have HT1 := Lib.hid (fun w' h' => toIntS_any (.slice a1 d1.length c1) d1 w' h' k1)
  have HT2 := Lib.hid (fun w' h' => toIntS_any (.slice a2 d2.length c2) d2 w' h' k2)
  have HS := Lib.hid (fun v' w' h' u1' i1' u2' i2' => specDivisorAdd_any v' l u1' d1 u2' d2 w' h' i1' i2')
  have HM := Lib.hid (fun v' w' h' u1' i1' u2' i2' hg' => divisorAdd_any v' l u1' d1 u2' d2 w' h' i1' i2' hg')
  have HX := Lib.hid (fun v1 v2 b1 b2 w' h1 h2 => eqVecS_same v1 v2 b1 b2 l w' h1 h2)
  have HX1 := Lib.hid (fun v1 v2 b1 b2 w' h1 h2 => eqIntS_same v1 v2 b1 b2 d1 w' h1 h2)
  have HX2 := Lib.hid (fun v1 v2 b1 b2 w' h1 h2 => eqIntS_same v1 v2 b1 b2 d2 w' h1 h2)
  have HR := Lib.hid (fun (w' : World) (b : Nat) (v' : Value) (h' : Vecs w' b v' l) => h'.reads (by omega))
  have HR1 := Lib.hid (fun (w' : World) (b : Nat) (v' : Value) (h' : Ints w' b v' d1) => h'.reads (by omega))
  have HR2 := Lib.hid (fun (w' : World) (b : Nat) (v' : Value) (h' : Ints w' b v' d2) => h'.reads (by omega))
  have HH := Lib.hid h
  have HH0 := Lib.hid h
  have J1 := Lib.hid h1
  have J10 := Lib.hid h1
  have J2 := Lib.hid h2
  have J20 := Lib.hid h2
  have hz0 : ¬ 1048576 - (l.length : Int) < 0 := by omega
  have hy1 : (d1.length : Int) ≤ 1048576 := by omega
  have hy2 : (d2.length : Int) ≤ 1048576 := by omega
  have hlen : (gV (addDB l d1 d2) (sumL d1 1 d2)).length ≤ 1152921504606846976 := gV_len (fun h => by rw [sumL_len]; omega)
  generalize addDB l d1 d2 = K at HS HM hlen
  generalize gV K (sumL d1 1 d2) = L at HS HM hlen
  have HP := Lib.hid (fun v' b w' h' => markVecS_own v' b l w' h' (by omega))
  have HP1 := Lib.hid (fun v' b w' h' => markIntS_from v' b (1 + l.length * 2) d1 w' h' (by omega) (by omega))
  have HP2 := Lib.hid (fun v' b w' h' => markIntS_from v' b (1 + l.length * 2 + d1.length) d2 w' h' (by omega) (by omega))
  have HE := Lib.hid (fun v1 v2 b1 b2 w' h1 h2 => eqIntS_same v1 v2 b1 b2 L w' h1 h2)
  have HQ := Lib.hid (fun v' b w' h' => markIntS_own v' b L w' h' hlen)
  have HO := Lib.hid (fun v' b w' h' => heldIntS_own v' b L.length w' h' hlen)
  have hz1 : (0 : Int) ≤ ((1 + l.length * 2 : Nat) : Int) := by omega
  have hz2 : (0 : Int) ≤ ((1 + l.length * 2 + d1.length : Nat) : Int) := by omega
  have hz3 : (0 : Int) ≤ ((1 + l.length * 2 + d1.length + d2.length : Nat) : Int) := by omega
  have hzq : (0 : Int) ≤ ((1 + L.length : Nat) : Int) := by omega
  unfold VMarkedV at HP
  unfold MarkedV at HQ
  generalize ((1 + l.length * 2 + d1.length + d2.length : Nat) : Int) = z3 at hz3 HP HP1 HP2
  generalize ((1 + l.length * 2 + d1.length : Nat) : Int) = z2 at hz2 HP HP1 HP2
  generalize ((1 + l.length * 2 : Nat) : Int) = z1 at hz1 HP HP1 HP2
  generalize ((1 + L.length : Nat) : Int) = zq at hzq HQ HO
  generalize marks 1 (l.length * 2) = M1 at HP
  generalize marks 1 L.length = M2 at HQ HO
  clear h hl hm0 h1 k1 h2 k2 hlen
  generalize l.length = n at *
  generalize d1.length = m1 at *
  generalize d2.length = m2 at *
  go_enter Tryd.func5, Tryd.ntmps5
  go_wp2_with fail
  refine Calls.mono (HZ.out _) ?_
  rintro e w0 ⟨rfl, rfl⟩
  have hA : Below w.heap.size w w := Below.refl _ _
  go_wp2_with fail
  refine Calls.mono (HT.out _ HH.out) ?_
  rintro e w1 ⟨va, rfl, Iva, hb1⟩
  replace HH := Lib.hid (HH.out.below hb1)
  replace J1 := Lib.hid (J1.out.below hb1)
  replace J2 := Lib.hid (J2.out.below hb1)
  replace Iva := Lib.hid Iva
  replace hA := belowTo hA hb1
  clear hb1
  go_wp2_with fail
  refine Calls.mono (HT1.out _ J1.out) ?_
  rintro e w2 ⟨va1, rfl, Iva1, hb2⟩
  replace HH := Lib.hid (HH.out.below hb2)
  replace J1 := Lib.hid (J1.out.below hb2)
  replace J2 := Lib.hid (J2.out.below hb2)
  replace Iva := Lib.hid (Iva.out.below hb2)
  replace Iva1 := Lib.hid Iva1
  replace hA := belowTo hA hb2
  clear hb2
  go_wp2_with fail
  refine Calls.mono (HT2.out _ J2.out) ?_
  rintro e w3 ⟨va2, rfl, Iva2, hb3⟩
  replace HH := Lib.hid (HH.out.below hb3)
  replace J1 := Lib.hid (J1.out.below hb3)
  replace J2 := Lib.hid (J2.out.below hb3)
  replace Iva := Lib.hid (Iva.out.below hb3)
  replace Iva1 := Lib.hid (Iva1.out.below hb3)
  replace Iva2 := Lib.hid Iva2
  replace hA := belowTo hA hb3
  clear hb3
  go_wp2_with fail
  refine Calls.mono (HS.out _ _ (HR.out _ _ _ Iva.out) _ (HR1.out _ _ _ Iva1.out) _ (HR2.out _ _ _ Iva2.out)) ?_
  rintro e w4 ⟨v0, rfl, I0, hb4⟩
  have B0 := Lib.hid (fun k hk => (I0.block k hk).2)
  replace HH := Lib.hid (HH.out.below hb4)
  replace J1 := Lib.hid (J1.out.below hb4)
  replace J2 := Lib.hid (J2.out.below hb4)
  replace I0 := Lib.hid I0
  replace hA := belowTo hA hb4
  clear hb4 Iva Iva1 Iva2
  have hwx := hA.size
  go_wp2_with fail
  refine Calls.mono (HT.out _ HH.out) ?_
  rintro e w5 ⟨vx, rfl, Ivx, hb5⟩
  have Bvx := Lib.hid (fun k hk => (Ivx.block k hk))
  have hs5 := hb5.size
  replace HH := Lib.hid (HH.out.below hb5)
  replace J1 := Lib.hid (J1.out.below hb5)
  replace J2 := Lib.hid (J2.out.below hb5)
  replace I0 := Lib.hid (I0.out.below hb5)
  replace Ivx := Lib.hid Ivx
  replace hA := belowTo hA hb5
  clear hb5
  have hwvx1 := hA.size
  go_wp2_with fail
  refine Calls.mono (HT1.out _ J1.out) ?_
  rintro e w6 ⟨vx1, rfl, Ivx1, hb6⟩
  have Bvx1 := Lib.hid (fun k hk => (Ivx1.block k hk))
  have hs6 := hb6.size
  replace HH := Lib.hid (HH.out.below hb6)
  replace J1 := Lib.hid (J1.out.below hb6)
  replace J2 := Lib.hid (J2.out.below hb6)
  replace I0 := Lib.hid (I0.out.below hb6)
  replace Ivx := Lib.hid (Ivx.out.below hb6)
  replace Ivx1 := Lib.hid Ivx1
  replace hA := belowTo hA hb6
  clear hb6
  have hwvx2 := hA.size
  go_wp2_with fail
  refine Calls.mono (HT2.out _ J2.out) ?_
  rintro e w7 ⟨vx2, rfl, Ivx2, hb7⟩
  have Bvx2 := Lib.hid (fun k hk => (Ivx2.block k hk))
  have hs7 := hb7.size
  replace HH := Lib.hid (HH.out.below hb7)
  replace J1 := Lib.hid (J1.out.below hb7)
  replace J2 := Lib.hid (J2.out.below hb7)
  replace I0 := Lib.hid (I0.out.below hb7)
  replace Ivx := Lib.hid (Ivx.out.below hb7)
  replace Ivx1 := Lib.hid (Ivx1.out.below hb7)
  replace Ivx2 := Lib.hid Ivx2
  replace hA := belowTo hA hb7
  clear hb7
  have hwg := hA.size
  go_wp2_with fail
  refine Calls.mono (HM.out _ _ (HR.out _ _ _ Ivx.out) _ (HR1.out _ _ _ Ivx1.out) _ (HR2.out _ _ _ Ivx2.out) (hg.below hA)) ?_
  rintro e w8 ⟨vg, rfl, IG, hb8⟩
  have BG := Lib.hid (fun k hk => (IG.block k hk))
  have hs8 := hb8.size
  replace HH := Lib.hid (HH.out.below hb8)
  replace J1 := Lib.hid (J1.out.below hb8)
  replace J2 := Lib.hid (J2.out.below hb8)
  replace I0 := Lib.hid (I0.out.below hb8)
  replace Ivx := Lib.hid (Ivx.out.below hb8)
  replace Ivx1 := Lib.hid (Ivx1.out.below hb8)
  replace Ivx2 := Lib.hid (Ivx2.out.below hb8)
  replace IG := Lib.hid IG
  replace hA := belowTo hA hb8
  clear hb8
  go_wp2_with fail
  refine Calls.mono (HE.out _ _ _ _ _ IG.out I0.out) ?_
  rintro e w9 ⟨rfl, hb9⟩
  have hs9 := hb9.size
  replace HH := Lib.hid (HH.out.below hb9)
  replace J1 := Lib.hid (J1.out.below hb9)
  replace J2 := Lib.hid (J2.out.below hb9)
  replace I0 := Lib.hid (I0.out.below hb9)
  replace Ivx := Lib.hid (Ivx.out.below hb9)
  replace Ivx1 := Lib.hid (Ivx1.out.below hb9)
  replace Ivx2 := Lib.hid (Ivx2.out.below hb9)
  replace IG := Lib.hid (IG.out.below hb9)
  replace hA := belowTo hA hb9
  clear hb9
  go_wp2_with fail
  refine Calls.mono (HT.out _ HH.out) ?_
  rintro e w10 ⟨vy0, rfl, Iy0, hb10⟩
  have hs10 := hb10.size
  replace HH := Lib.hid (HH.out.below hb10)
  replace J1 := Lib.hid (J1.out.below hb10)
  replace J2 := Lib.hid (J2.out.below hb10)
  replace I0 := Lib.hid (I0.out.below hb10)
  replace Ivx := Lib.hid (Ivx.out.below hb10)
  replace Ivx1 := Lib.hid (Ivx1.out.below hb10)
  replace Ivx2 := Lib.hid (Ivx2.out.below hb10)
  replace IG := Lib.hid (IG.out.below hb10)
  replace Iy0 := Lib.hid Iy0
  replace hA := belowTo hA hb10
  clear hb10
  go_wp2_with fail
  refine Calls.mono (HX.out _ _ _ _ _ Ivx.out Iy0.out) ?_
  rintro e w11 ⟨rfl, hb11⟩
  have hs11 := hb11.size
  replace HH := Lib.hid (HH.out.below hb11)
  replace J1 := Lib.hid (J1.out.below hb11)
  replace J2 := Lib.hid (J2.out.below hb11)
  replace I0 := Lib.hid (I0.out.below hb11)
  replace Ivx := Lib.hid (Ivx.out.below hb11)
  replace Ivx1 := Lib.hid (Ivx1.out.below hb11)
  replace Ivx2 := Lib.hid (Ivx2.out.below hb11)
  replace IG := Lib.hid (IG.out.below hb11)
  replace hA := belowTo hA hb11
  clear hb11 Iy0
  go_wp2_with fail
  refine Calls.mono (HT1.out _ J1.out) ?_
  rintro e w12 ⟨vy1, rfl, Iy1, hb12⟩
  have hs12 := hb12.size
  replace HH := Lib.hid (HH.out.below hb12)
  replace J1 := Lib.hid (J1.out.below hb12)
  replace J2 := Lib.hid (J2.out.below hb12)
  replace I0 := Lib.hid (I0.out.below hb12)
  replace Ivx := Lib.hid (Ivx.out.below hb12)
  replace Ivx1 := Lib.hid (Ivx1.out.below hb12)
  replace Ivx2 := Lib.hid (Ivx2.out.below hb12)
  replace IG := Lib.hid (IG.out.below hb12)
  replace Iy1 := Lib.hid Iy1
  replace hA := belowTo hA hb12
  clear hb12
  go_wp2_with fail
  refine Calls.mono (HX1.out _ _ _ _ _ Ivx1.out Iy1.out) ?_
  rintro e w13 ⟨rfl, hb13⟩
  have hs13 := hb13.size
  replace HH := Lib.hid (HH.out.below hb13)
  replace J1 := Lib.hid (J1.out.below hb13)
  replace J2 := Lib.hid (J2.out.below hb13)
  replace I0 := Lib.hid (I0.out.below hb13)
  replace Ivx := Lib.hid (Ivx.out.below hb13)
  replace Ivx1 := Lib.hid (Ivx1.out.below hb13)
  replace Ivx2 := Lib.hid (Ivx2.out.below hb13)
  replace IG := Lib.hid (IG.out.below hb13)
  replace hA := belowTo hA hb13
  clear hb13 Iy1
  go_wp2_with fail
  refine Calls.mono (HT2.out _ J2.out) ?_
  rintro e w14 ⟨vy2, rfl, Iy2, hb14⟩
  have hs14 := hb14.size
  replace HH := Lib.hid (HH.out.below hb14)
  replace J1 := Lib.hid (J1.out.below hb14)
  replace J2 := Lib.hid (J2.out.below hb14)
  replace I0 := Lib.hid (I0.out.below hb14)
  replace Ivx := Lib.hid (Ivx.out.below hb14)
  replace Ivx1 := Lib.hid (Ivx1.out.below hb14)
  replace Ivx2 := Lib.hid (Ivx2.out.below hb14)
  replace IG := Lib.hid (IG.out.below hb14)
  replace Iy2 := Lib.hid Iy2
  replace hA := belowTo hA hb14
  clear hb14
  go_wp2_with fail
  refine Calls.mono (HX2.out _ _ _ _ _ Ivx2.out Iy2.out) ?_
  rintro e w15 ⟨rfl, hb15⟩
  have hs15 := hb15.size
  replace HH := Lib.hid (HH.out.below hb15)
  replace J1 := Lib.hid (J1.out.below hb15)
  replace J2 := Lib.hid (J2.out.below hb15)
  replace I0 := Lib.hid (I0.out.below hb15)
  replace Ivx := Lib.hid (Ivx.out.below hb15)
  replace Ivx1 := Lib.hid (Ivx1.out.below hb15)
  replace Ivx2 := Lib.hid (Ivx2.out.below hb15)
  replace IG := Lib.hid (IG.out.below hb15)
  replace hA := belowTo hA hb15
  clear hb15 Iy2
  go_wp2_with fail
  refine Calls.mono (HP.out vx _ _ Ivx.out) ?_
  rintro e w16 ⟨rfl, _, hG⟩
  have hb16 := grown_below (b := w4.heap.size) hG (by omega) (fun k hk => (Bvx.out k hk).1)
  have hs16 := hb16.size
  replace I0 := Lib.hid (I0.out.far hG (fun k hk e => by have := B0.out k hk; have := (Bvx.out k e).1; omega))
  replace IG := Lib.hid (IG.out.far hG (fun k hk e => by have := (BG.out k hk).1; have := (Bvx.out k e).2; omega))
  replace Ivx1 := Lib.hid (Ivx1.out.far hG (fun k hk e => by have := (Bvx1.out k hk).1; have := (Bvx.out k e).2; omega))
  replace Ivx2 := Lib.hid (Ivx2.out.far hG (fun k hk e => by have := (Bvx2.out k hk).1; have := (Bvx.out k e).2; omega))
  replace hA := hA.trans (hb16.mono hwx)
  replace HH := Lib.hid (HH0.out.below hA)
  replace J1 := Lib.hid (J10.out.below hA)
  replace J2 := Lib.hid (J20.out.below hA)
  clear hb16 hG Ivx
  go_wp2_with fail
  refine Calls.mono (HP1.out vx1 _ _ Ivx1.out) ?_
  rintro e w17 ⟨rfl, hG⟩
  have hb17 := grown_below (b := w5.heap.size) hG (by omega) (fun k hk => (Bvx1.out k hk).1)
  have hs17 := hb17.size
  replace I0 := Lib.hid (I0.out.far hG (fun k hk e => by have := B0.out k hk; have := (Bvx1.out k e).1; omega))
  replace IG := Lib.hid (IG.out.far hG (fun k hk e => by have := (BG.out k hk).1; have := (Bvx1.out k e).2; omega))
  replace Ivx2 := Lib.hid (Ivx2.out.far hG (fun k hk e => by have := (Bvx2.out k hk).1; have := (Bvx1.out k e).2; omega))
  replace hA := hA.trans (hb17.mono hwvx1)
  replace HH := Lib.hid (HH0.out.below hA)
  replace J1 := Lib.hid (J10.out.below hA)
  replace J2 := Lib.hid (J20.out.below hA)
  clear hb17 hG Ivx1
  go_wp2_with fail
  refine Calls.mono (HP2.out vx2 _ _ Ivx2.out) ?_
  rintro e w18 ⟨rfl, hG⟩
  have hb18 := grown_below (b := w6.heap.size) hG (by omega) (fun k hk => (Bvx2.out k hk).1)
  have hs18 := hb18.size
  replace I0 := Lib.hid (I0.out.far hG (fun k hk e => by have := B0.out k hk; have := (Bvx2.out k e).1; omega))
  replace IG := Lib.hid (IG.out.far hG (fun k hk e => by have := (BG.out k hk).1; have := (Bvx2.out k e).2; omega))
  replace hA := hA.trans (hb18.mono hwvx2)
  replace HH := Lib.hid (HH0.out.below hA)
  replace J1 := Lib.hid (J10.out.below hA)
  replace J2 := Lib.hid (J20.out.below hA)
  clear hb18 hG Ivx2
  go_wp2_with fail
  refine Calls.mono (HE.out _ _ _ _ _ IG.out I0.out) ?_
  rintro e w19 ⟨rfl, hb19⟩
  have hs19 := hb19.size
  replace HH := Lib.hid (HH.out.below hb19)
  replace J1 := Lib.hid (J1.out.below hb19)
  replace J2 := Lib.hid (J2.out.below hb19)
  replace I0 := Lib.hid (I0.out.below hb19)
  replace IG := Lib.hid (IG.out.below hb19)
  replace hA := belowTo hA hb19
  clear hb19
  go_wp2_with fail
  refine Calls.mono (HQ.out vg _ _ IG.out) ?_
  rintro e w20 ⟨rfl, MG, hG⟩
  have hb20 := grown_below (b := w7.heap.size) hG (by omega) (fun k hk => (BG.out k hk).1)
  replace I0 := Lib.hid (I0.out.far hG (fun k hk e => by have := B0.out k hk; have := (BG.out k e).1; omega))
  replace MG := Lib.hid MG
  replace hA := hA.trans (hb20.mono hwg)
  replace HH := Lib.hid (HH0.out.below hA)
  replace J1 := Lib.hid (J10.out.below hA)
  replace J2 := Lib.hid (J20.out.below hA)
  clear hb20 hG IG B0 BG Bvx Bvx1 Bvx2 hs5 hs6 hs7 hs8 hs9 hs10 hs11 hs12 hs13 hs14 hs15 hs16 hs17 hs18 hs19 hwg hwvx1 hwvx2 hwx
  go_wp2_with fail
  refine Calls.mono (HO.out _ _ _ MG.out) ?_
  rintro e wq ⟨rfl, rfl⟩
  go_wp2_with fail
  refine Calls.mono (HT.out _ HH.out) ?_
  rintro e w21 ⟨vz, rfl, Ivz, hb21⟩
  replace HH := Lib.hid (HH.out.below hb21)
  replace J1 := Lib.hid (J1.out.below hb21)
  replace J2 := Lib.hid (J2.out.below hb21)
  replace I0 := Lib.hid (I0.out.below hb21)
  replace MG := Lib.hid (MG.out.below hb21)
  replace Ivz := Lib.hid Ivz
  replace hA := belowTo hA hb21
  clear hb21
  go_wp2_with fail
  refine Calls.mono (HT1.out _ J1.out) ?_
  rintro e w22 ⟨vz1, rfl, Ivz1, hb22⟩
  replace HH := Lib.hid (HH.out.below hb22)
  replace J1 := Lib.hid (J1.out.below hb22)
  replace J2 := Lib.hid (J2.out.below hb22)
  replace I0 := Lib.hid (I0.out.below hb22)
  replace MG := Lib.hid (MG.out.below hb22)
  replace Ivz := Lib.hid (Ivz.out.below hb22)
  replace Ivz1 := Lib.hid Ivz1
  replace hA := belowTo hA hb22
  clear hb22
  go_wp2_with fail
  refine Calls.mono (HT2.out _ J2.out) ?_
  rintro e w23 ⟨vz2, rfl, Ivz2, hb23⟩
  replace HH := Lib.hid (HH.out.below hb23)
  replace J1 := Lib.hid (J1.out.below hb23)
  replace J2 := Lib.hid (J2.out.below hb23)
  replace I0 := Lib.hid (I0.out.below hb23)
  replace MG := Lib.hid (MG.out.below hb23)
  replace Ivz := Lib.hid (Ivz.out.below hb23)
  replace Ivz1 := Lib.hid (Ivz1.out.below hb23)
  replace Ivz2 := Lib.hid Ivz2
  replace hA := belowTo hA hb23
  clear hb23
  go_wp2_with fail
  refine Calls.mono (HM.out _ _ (HR.out _ _ _ Ivz.out) _ (HR1.out _ _ _ Ivz1.out) _ (HR2.out _ _ _ Ivz2.out) (hg.below hA)) ?_
  rintro e w24 ⟨vh, rfl, IK, hb24⟩
  replace HH := Lib.hid (HH.out.below hb24)
  replace J1 := Lib.hid (J1.out.below hb24)
  replace J2 := Lib.hid (J2.out.below hb24)
  replace I0 := Lib.hid (I0.out.below hb24)
  replace MG := Lib.hid (MG.out.below hb24)
  replace IK := Lib.hid IK
  replace hA := belowTo hA hb24
  clear hb24 Ivz Ivz1 Ivz2
  go_wp2_with fail
  refine Calls.mono (HE.out _ _ _ _ _ IK.out I0.out) ?_
  rintro e w25 ⟨rfl, hb25⟩
  replace HH := Lib.hid (HH.out.below hb25)
  replace J1 := Lib.hid (J1.out.below hb25)
  replace J2 := Lib.hid (J2.out.below hb25)
  replace MG := Lib.hid (MG.out.below hb25)
  replace hA := belowTo hA hb25
  clear hb25 IK I0
  go_wp2_with fail
  refine Calls.mono (HO.out _ _ _ MG.out) ?_
  rintro e wr ⟨rfl, rfl⟩
  go_wp2
  go_returns
  exact ⟨rfl, hA⟩
set_option maxHeartbeats 4000000 in
theorem exactDivisorAdd_row (a : Option Addr) (len cap : Nat) (a1 : Option Addr) (len1 cap1 : Nat) (a2 : Option Addr) (len2 cap2 : Nat) (w : World) (h : VecRow w a len cap) (h1 : IntRow w a1 len1 cap1) (h2 : IntRow w a2 len2 cap2) (hg : EtOk w) :
    Calls Tryd.prog 5 #[.slice a len cap, .slice a1 len1 cap1, .slice a2 len2 cap2] w fun e w' => e = .returned (.bool true) ∧ Below w.heap.size w w' := by
  by_cases g1 : len1 ≤ 1048576
  case neg =>
    have j1 : (1048576 : Int) < (len1 : Int) := by omega
    clear h hg h1 h2
    go_enter Tryd.func5, Tryd.ntmps5
    go_wp2
    go_returns
    exact ⟨rfl, by go_grown⟩
  case pos =>
    by_cases g2 : len2 ≤ 1048576
    case neg =>
      have j2 : (1048576 : Int) < (len2 : Int) := by omega
      have j1 : (len1 : Int) ≤ 1048576 := by omega
      clear h hg h1 h2
      go_enter Tryd.func5, Tryd.ntmps5
      go_wp2
      go_returns
      exact ⟨rfl, by go_grown⟩
    case pos =>
      by_cases hl : len ≤ 1048576
      · obtain ⟨l, rfl, hr⟩ := h.reads hl
        obtain ⟨d1, rfl, hr1⟩ := h1.reads g1
        obtain ⟨d2, rfl, hr2⟩ := h2.reads g2
        exact exactDivisorAdd_any _ l _ _ d1 d2 w hr hr1 hr2 hg hl g1 g2
      · have HZ := Lib.hid (fun w' => szVecS_any a len cap w' h.le_max)
        rw [if_neg hl] at HZ
        have j1 : (len1 : Int) ≤ 1048576 := by omega
        have j2 : (len2 : Int) ≤ 1048576 := by omega
        clear h hg h1 h2
        go_enter Tryd.func5, Tryd.ntmps5
        go_wp2_with fail
        refine Calls.mono (HZ.out _) ?_
        rintro e w1 ⟨rfl, rfl⟩
        go_wp2
        go_returns
        exact ⟨rfl, by go_grown⟩
end Go.Proofs.YtcieihbknfeddabDoor
