/- DivisorPlain: the model, the walk, the row, merged into one text. -/
import Derived.Test.YtcieihbknfeddabGreatDoorBf
import Derived.Test.YtcieihbknfeddabGreatDoorQu
import Derived.Test.YtcieihbknfeddabGreatDoorQ7
import Derived.Test.YtcieihbknfeddabGreatDoorQl
import Derived.Test.YtcieihbknfeddabGreatDoorRowW
import Derived.Test.YtcieihbknfeddabGreatDoorRf
namespace Go.Proofs.YtcieihbknfeddabGreatDoor
open Go.RowKit

set_option maxHeartbeats 4000000 in
theorem specDivisorPlain_any (v : Value) (l : List V2) (u1 : Value) (a : List Int) (w : World) (hl : ReadsVecs w v l) (h1 : ReadsInts w u1 a) :
    Calls Tryz.prog 7 #[v, u1] w (GivesIntsOk w (gV (plnDB l a) (plainL l a)) (plnDB l a)) := by
  have HA := Lib.hid (specDivisorIn_any v l u1 a w hl h1)
  have HE := Lib.hid (fun w' => Ints.empty w')
  have HS := Lib.hid (fun w' (hb : Below w.heap.size w w') (ha : divB l a = true) => l4Plain_any v u1 l a w' (hl.below hb) (h1.below hb) (div_in ha).2.1 (by have := div_len ha; omega) (div_len ha).2 (div_smooth ha).1 (bnd_mono (div_bnd ha) (by omega)))
  have HD := Lib.hid (fun u' b' w' (hb : Below w.heap.size w w') (hI : Ints w' b' u' (plainL l a)) (ha : divB l a = true) (hs : b' ≤ (w' : World).heap.size) => l4Done_any v l u' (plainL l a) b' w' (hl.below hb) hI (by rw [plain_len]; have := div_len ha; have := (div_in ha).2.1; omega) hs)
  unfold plnDB
  clear hl h1
  cases ha : divB l a
  · rw [ha] at HA
    clear ha HS HD
    go_enter Tryz.func7, Tryz.ntmps7
    go_wp2_with fail
    refine Calls.mono HA.out ?_
    rintro e w1 ⟨rfl, hb1⟩
    have hs1 := hb1.size
    have HE2 := Lib.hid ((HE.out w1).lower hs1)
    go_wp2
    go_returns
    exact ⟨_, rfl, HE2.out, by go_grown⟩
  · rw [ha] at HA
    have HS2 := Lib.hid (fun w' h => HS.out w' h ha)
    have HD2 := Lib.hid (fun u' b' w' h hI hs => HD.out u' b' w' h hI ha hs)
    clear ha HS HD
    go_enter Tryz.func7, Tryz.ntmps7
    go_wp2_with fail
    refine Calls.mono HA.out ?_
    rintro e w1 ⟨rfl, hb1⟩
    go_wp2_with fail
    refine Calls.mono (HS2.out _ hb1) ?_
    rintro e w3 ⟨v3, rfl, hI, hb3⟩
    have hB3 := belowTo hb1 hb3
    have hI3 := hI.lower hb1.size
    have hs3 := hB3.size
    clear hI hb3
    go_wp2_with fail
    refine Calls.mono (HD2.out v3 _ _ hB3 hI3 hs3) ?_
    rintro e w4 ⟨v4, rfl, hI4, hb4⟩
    have HI4 := Lib.hid hI4
    have hB4 := belowTo hB3 hb4
    clear hI4 hI3 hb4 hB3
    go_wp2
    go_returns
    exact ⟨_, rfl, HI4.out, hB4⟩

set_option maxHeartbeats 16000000 in
theorem exactDivisorPlain_any (v : Value) (l : List V2) (u1 : Value) (d1 : List Int) (w : World) (h : ReadsVecs w v l) (h1 : ReadsInts w u1 d1) (hg : EtOk w)
    (hl : l.length ≤ 1048576) (k1 : d1.length ≤ 1048576) :
    Calls Tryz.prog 3 #[v, u1] w fun e w' => e = .returned (.bool true) ∧ Below w.heap.size w w' := by
  have h' := h
  obtain ⟨a, c, rfl, _, hm0, _⟩ := h'
  have h1' := h1
  obtain ⟨a1, c1, rfl, _, _⟩ := h1'
  have HZ := Lib.hid (fun w' => szVecS_any a l.length c w' (by omega))
  rw [if_pos hl] at HZ
  have HT := Lib.hid (fun w' h' => toVecS_any (.slice a l.length c) l w' h' hl)
  have HT1 := Lib.hid (fun w' h' => toIntS_any (.slice a1 d1.length c1) d1 w' h' k1)
  have HS := Lib.hid (fun v' w' h' u1' i1' => specDivisorPlain_any v' l u1' d1 w' h' i1')
  have HM := Lib.hid (fun v' w' h' u1' i1' hg' => divisorPlain_any v' l u1' d1 w' h' i1' hg')
  have HX := Lib.hid (fun v1 v2 b1 b2 w' h1 h2 => eqVecS_same v1 v2 b1 b2 l w' h1 h2)
  have HX1 := Lib.hid (fun v1 v2 b1 b2 w' h1 h2 => eqIntS_same v1 v2 b1 b2 d1 w' h1 h2)
  have HR := Lib.hid (fun (w' : World) (b : Nat) (v' : Value) (h' : Vecs w' b v' l) => h'.reads (by omega))
  have HR1 := Lib.hid (fun (w' : World) (b : Nat) (v' : Value) (h' : Ints w' b v' d1) => h'.reads (by omega))
  have HH := Lib.hid h
  have HH0 := Lib.hid h
  have J1 := Lib.hid h1
  have J10 := Lib.hid h1
  have hz0 : ¬ 1048576 - (l.length : Int) < 0 := by omega
  have hy1 : (d1.length : Int) ≤ 1048576 := by omega
  have hlen : (gV (plnDB l d1) (plainL l d1)).length ≤ 1152921504606846976 := gV_len (fun h => by rw [plain_len]; omega)
  generalize plnDB l d1 = K at HS HM hlen
  generalize gV K (plainL l d1) = L at HS HM hlen
  have HP := Lib.hid (fun v' b w' h' => markVecS_own v' b l w' h' (by omega))
  have HP1 := Lib.hid (fun v' b w' h' => markIntS_from v' b (1 + l.length * 2) d1 w' h' (by omega) (by omega))
  have HE := Lib.hid (fun v1 v2 b1 b2 w' h1 h2 => eqIntS_same v1 v2 b1 b2 L w' h1 h2)
  have HQ := Lib.hid (fun v' b w' h' => markIntS_own v' b L w' h' hlen)
  have HO := Lib.hid (fun v' b w' h' => heldIntS_own v' b L.length w' h' hlen)
  have hz1 : (0 : Int) ≤ ((1 + l.length * 2 : Nat) : Int) := by omega
  have hz2 : (0 : Int) ≤ ((1 + l.length * 2 + d1.length : Nat) : Int) := by omega
  have hzq : (0 : Int) ≤ ((1 + L.length : Nat) : Int) := by omega
  unfold VMarkedV at HP
  unfold MarkedV at HQ
  generalize ((1 + l.length * 2 + d1.length : Nat) : Int) = z2 at hz2 HP HP1
  generalize ((1 + l.length * 2 : Nat) : Int) = z1 at hz1 HP HP1
  generalize ((1 + L.length : Nat) : Int) = zq at hzq HQ HO
  generalize marks 1 (l.length * 2) = M1 at HP
  generalize marks 1 L.length = M2 at HQ HO
  clear h hl hm0 h1 k1 hlen
  generalize l.length = n at *
  generalize d1.length = m1 at *
  go_enter Tryz.func3, Tryz.ntmps3
  go_wp2_with fail
  refine Calls.mono (HZ.out _) ?_
  rintro e w0 ⟨rfl, rfl⟩
  have hA : Below w.heap.size w w := Below.refl _ _
  go_wp2_with fail
  refine Calls.mono (HT.out _ HH.out) ?_
  rintro e w1 ⟨va, rfl, Iva, hb1⟩
  replace HH := Lib.hid (HH.out.below hb1)
  replace J1 := Lib.hid (J1.out.below hb1)
  replace Iva := Lib.hid Iva
  replace hA := belowTo hA hb1
  clear hb1
  go_wp2_with fail
  refine Calls.mono (HT1.out _ J1.out) ?_
  rintro e w2 ⟨va1, rfl, Iva1, hb2⟩
  replace HH := Lib.hid (HH.out.below hb2)
  replace J1 := Lib.hid (J1.out.below hb2)
  replace Iva := Lib.hid (Iva.out.below hb2)
  replace Iva1 := Lib.hid Iva1
  replace hA := belowTo hA hb2
  clear hb2
  go_wp2_with fail
  refine Calls.mono (HS.out _ _ (HR.out _ _ _ Iva.out) _ (HR1.out _ _ _ Iva1.out)) ?_
  rintro e w3 ⟨v0, rfl, I0, hb3⟩
  have B0 := Lib.hid (fun k hk => (I0.block k hk).2)
  replace HH := Lib.hid (HH.out.below hb3)
  replace J1 := Lib.hid (J1.out.below hb3)
  replace I0 := Lib.hid I0
  replace hA := belowTo hA hb3
  clear hb3 Iva Iva1
  have hwx := hA.size
  go_wp2_with fail
  refine Calls.mono (HT.out _ HH.out) ?_
  rintro e w4 ⟨vx, rfl, Ivx, hb4⟩
  have Bvx := Lib.hid (fun k hk => (Ivx.block k hk))
  have hs4 := hb4.size
  replace HH := Lib.hid (HH.out.below hb4)
  replace J1 := Lib.hid (J1.out.below hb4)
  replace I0 := Lib.hid (I0.out.below hb4)
  replace Ivx := Lib.hid Ivx
  replace hA := belowTo hA hb4
  clear hb4
  have hwvx1 := hA.size
  go_wp2_with fail
  refine Calls.mono (HT1.out _ J1.out) ?_
  rintro e w5 ⟨vx1, rfl, Ivx1, hb5⟩
  have Bvx1 := Lib.hid (fun k hk => (Ivx1.block k hk))
  have hs5 := hb5.size
  replace HH := Lib.hid (HH.out.below hb5)
  replace J1 := Lib.hid (J1.out.below hb5)
  replace I0 := Lib.hid (I0.out.below hb5)
  replace Ivx := Lib.hid (Ivx.out.below hb5)
  replace Ivx1 := Lib.hid Ivx1
  replace hA := belowTo hA hb5
  clear hb5
  have hwg := hA.size
  go_wp2_with fail
  refine Calls.mono (HM.out _ _ (HR.out _ _ _ Ivx.out) _ (HR1.out _ _ _ Ivx1.out) (hg.below hA)) ?_
  rintro e w6 ⟨vg, rfl, IG, hb6⟩
  have BG := Lib.hid (fun k hk => (IG.block k hk))
  have hs6 := hb6.size
  replace HH := Lib.hid (HH.out.below hb6)
  replace J1 := Lib.hid (J1.out.below hb6)
  replace I0 := Lib.hid (I0.out.below hb6)
  replace Ivx := Lib.hid (Ivx.out.below hb6)
  replace Ivx1 := Lib.hid (Ivx1.out.below hb6)
  replace IG := Lib.hid IG
  replace hA := belowTo hA hb6
  clear hb6
  go_wp2_with fail
  refine Calls.mono (HE.out _ _ _ _ _ IG.out I0.out) ?_
  rintro e w7 ⟨rfl, hb7⟩
  have hs7 := hb7.size
  replace HH := Lib.hid (HH.out.below hb7)
  replace J1 := Lib.hid (J1.out.below hb7)
  replace I0 := Lib.hid (I0.out.below hb7)
  replace Ivx := Lib.hid (Ivx.out.below hb7)
  replace Ivx1 := Lib.hid (Ivx1.out.below hb7)
  replace IG := Lib.hid (IG.out.below hb7)
  replace hA := belowTo hA hb7
  clear hb7
  go_wp2_with fail
  refine Calls.mono (HT.out _ HH.out) ?_
  rintro e w8 ⟨vy0, rfl, Iy0, hb8⟩
  have hs8 := hb8.size
  replace HH := Lib.hid (HH.out.below hb8)
  replace J1 := Lib.hid (J1.out.below hb8)
  replace I0 := Lib.hid (I0.out.below hb8)
  replace Ivx := Lib.hid (Ivx.out.below hb8)
  replace Ivx1 := Lib.hid (Ivx1.out.below hb8)
  replace IG := Lib.hid (IG.out.below hb8)
  replace Iy0 := Lib.hid Iy0
  replace hA := belowTo hA hb8
  clear hb8
  go_wp2_with fail
  refine Calls.mono (HX.out _ _ _ _ _ Ivx.out Iy0.out) ?_
  rintro e w9 ⟨rfl, hb9⟩
  have hs9 := hb9.size
  replace HH := Lib.hid (HH.out.below hb9)
  replace J1 := Lib.hid (J1.out.below hb9)
  replace I0 := Lib.hid (I0.out.below hb9)
  replace Ivx := Lib.hid (Ivx.out.below hb9)
  replace Ivx1 := Lib.hid (Ivx1.out.below hb9)
  replace IG := Lib.hid (IG.out.below hb9)
  replace hA := belowTo hA hb9
  clear hb9 Iy0
  go_wp2_with fail
  refine Calls.mono (HT1.out _ J1.out) ?_
  rintro e w10 ⟨vy1, rfl, Iy1, hb10⟩
  have hs10 := hb10.size
  replace HH := Lib.hid (HH.out.below hb10)
  replace J1 := Lib.hid (J1.out.below hb10)
  replace I0 := Lib.hid (I0.out.below hb10)
  replace Ivx := Lib.hid (Ivx.out.below hb10)
  replace Ivx1 := Lib.hid (Ivx1.out.below hb10)
  replace IG := Lib.hid (IG.out.below hb10)
  replace Iy1 := Lib.hid Iy1
  replace hA := belowTo hA hb10
  clear hb10
  go_wp2_with fail
  refine Calls.mono (HX1.out _ _ _ _ _ Ivx1.out Iy1.out) ?_
  rintro e w11 ⟨rfl, hb11⟩
  have hs11 := hb11.size
  replace HH := Lib.hid (HH.out.below hb11)
  replace J1 := Lib.hid (J1.out.below hb11)
  replace I0 := Lib.hid (I0.out.below hb11)
  replace Ivx := Lib.hid (Ivx.out.below hb11)
  replace Ivx1 := Lib.hid (Ivx1.out.below hb11)
  replace IG := Lib.hid (IG.out.below hb11)
  replace hA := belowTo hA hb11
  clear hb11 Iy1
  go_wp2_with fail
  refine Calls.mono (HP.out vx _ _ Ivx.out) ?_
  rintro e w12 ⟨rfl, _, hG⟩
  have hb12 := grown_below (b := w3.heap.size) hG (by omega) (fun k hk => (Bvx.out k hk).1)
  have hs12 := hb12.size
  replace I0 := Lib.hid (I0.out.far hG (fun k hk e => by have := B0.out k hk; have := (Bvx.out k e).1; omega))
  replace IG := Lib.hid (IG.out.far hG (fun k hk e => by have := (BG.out k hk).1; have := (Bvx.out k e).2; omega))
  replace Ivx1 := Lib.hid (Ivx1.out.far hG (fun k hk e => by have := (Bvx1.out k hk).1; have := (Bvx.out k e).2; omega))
  replace hA := hA.trans (hb12.mono hwx)
  replace HH := Lib.hid (HH0.out.below hA)
  replace J1 := Lib.hid (J10.out.below hA)
  clear hb12 hG Ivx
  go_wp2_with fail
  refine Calls.mono (HP1.out vx1 _ _ Ivx1.out) ?_
  rintro e w13 ⟨rfl, hG⟩
  have hb13 := grown_below (b := w4.heap.size) hG (by omega) (fun k hk => (Bvx1.out k hk).1)
  have hs13 := hb13.size
  replace I0 := Lib.hid (I0.out.far hG (fun k hk e => by have := B0.out k hk; have := (Bvx1.out k e).1; omega))
  replace IG := Lib.hid (IG.out.far hG (fun k hk e => by have := (BG.out k hk).1; have := (Bvx1.out k e).2; omega))
  replace hA := hA.trans (hb13.mono hwvx1)
  replace HH := Lib.hid (HH0.out.below hA)
  replace J1 := Lib.hid (J10.out.below hA)
  clear hb13 hG Ivx1
  go_wp2_with fail
  refine Calls.mono (HE.out _ _ _ _ _ IG.out I0.out) ?_
  rintro e w14 ⟨rfl, hb14⟩
  have hs14 := hb14.size
  replace HH := Lib.hid (HH.out.below hb14)
  replace J1 := Lib.hid (J1.out.below hb14)
  replace I0 := Lib.hid (I0.out.below hb14)
  replace IG := Lib.hid (IG.out.below hb14)
  replace hA := belowTo hA hb14
  clear hb14
  go_wp2_with fail
  refine Calls.mono (HQ.out vg _ _ IG.out) ?_
  rintro e w15 ⟨rfl, MG, hG⟩
  have hb15 := grown_below (b := w5.heap.size) hG (by omega) (fun k hk => (BG.out k hk).1)
  replace I0 := Lib.hid (I0.out.far hG (fun k hk e => by have := B0.out k hk; have := (BG.out k e).1; omega))
  replace MG := Lib.hid MG
  replace hA := hA.trans (hb15.mono hwg)
  replace HH := Lib.hid (HH0.out.below hA)
  replace J1 := Lib.hid (J10.out.below hA)
  clear hb15 hG IG B0 BG Bvx Bvx1 hs4 hs5 hs6 hs7 hs8 hs9 hs10 hs11 hs12 hs13 hs14 hwg hwvx1 hwx
  go_wp2_with fail
  refine Calls.mono (HO.out _ _ _ MG.out) ?_
  rintro e wq ⟨rfl, rfl⟩
  go_wp2_with fail
  refine Calls.mono (HT.out _ HH.out) ?_
  rintro e w16 ⟨vz, rfl, Ivz, hb16⟩
  replace HH := Lib.hid (HH.out.below hb16)
  replace J1 := Lib.hid (J1.out.below hb16)
  replace I0 := Lib.hid (I0.out.below hb16)
  replace MG := Lib.hid (MG.out.below hb16)
  replace Ivz := Lib.hid Ivz
  replace hA := belowTo hA hb16
  clear hb16
  go_wp2_with fail
  refine Calls.mono (HT1.out _ J1.out) ?_
  rintro e w17 ⟨vz1, rfl, Ivz1, hb17⟩
  replace HH := Lib.hid (HH.out.below hb17)
  replace J1 := Lib.hid (J1.out.below hb17)
  replace I0 := Lib.hid (I0.out.below hb17)
  replace MG := Lib.hid (MG.out.below hb17)
  replace Ivz := Lib.hid (Ivz.out.below hb17)
  replace Ivz1 := Lib.hid Ivz1
  replace hA := belowTo hA hb17
  clear hb17
  go_wp2_with fail
  refine Calls.mono (HM.out _ _ (HR.out _ _ _ Ivz.out) _ (HR1.out _ _ _ Ivz1.out) (hg.below hA)) ?_
  rintro e w18 ⟨vh, rfl, IK, hb18⟩
  replace HH := Lib.hid (HH.out.below hb18)
  replace J1 := Lib.hid (J1.out.below hb18)
  replace I0 := Lib.hid (I0.out.below hb18)
  replace MG := Lib.hid (MG.out.below hb18)
  replace IK := Lib.hid IK
  replace hA := belowTo hA hb18
  clear hb18 Ivz Ivz1
  go_wp2_with fail
  refine Calls.mono (HE.out _ _ _ _ _ IK.out I0.out) ?_
  rintro e w19 ⟨rfl, hb19⟩
  replace HH := Lib.hid (HH.out.below hb19)
  replace J1 := Lib.hid (J1.out.below hb19)
  replace MG := Lib.hid (MG.out.below hb19)
  replace hA := belowTo hA hb19
  clear hb19 IK I0
  go_wp2_with fail
  refine Calls.mono (HO.out _ _ _ MG.out) ?_
  rintro e wr ⟨rfl, rfl⟩
  go_wp2
  go_returns
  exact ⟨rfl, hA⟩
set_option maxHeartbeats 4000000 in
theorem exactDivisorPlain_row (a : Option Addr) (len cap : Nat) (a1 : Option Addr) (len1 cap1 : Nat) (w : World) (h : VecRow w a len cap) (h1 : IntRow w a1 len1 cap1) (hg : EtOk w) :
    Calls Tryz.prog 3 #[.slice a len cap, .slice a1 len1 cap1] w fun e w' => e = .returned (.bool true) ∧ Below w.heap.size w w' := by
  by_cases g1 : len1 ≤ 1048576
  case neg =>
    have j1 : (1048576 : Int) < (len1 : Int) := by omega
    clear h hg h1
    go_enter Tryz.func3, Tryz.ntmps3
    go_wp2
    go_returns
    exact ⟨rfl, by go_grown⟩
  case pos =>
    by_cases hl : len ≤ 1048576
    · obtain ⟨l, rfl, hr⟩ := h.reads hl
      obtain ⟨d1, rfl, hr1⟩ := h1.reads g1
      exact exactDivisorPlain_any _ l _ d1 w hr hr1 hg hl g1
    · have HZ := Lib.hid (fun w' => szVecS_any a len cap w' h.le_max)
      rw [if_neg hl] at HZ
      have j1 : (len1 : Int) ≤ 1048576 := by omega
      clear h hg h1
      go_enter Tryz.func3, Tryz.ntmps3
      go_wp2_with fail
      refine Calls.mono (HZ.out _) ?_
      rintro e w1 ⟨rfl, rfl⟩
      go_wp2
      go_returns
      exact ⟨rfl, by go_grown⟩
end Go.Proofs.YtcieihbknfeddabGreatDoor
namespace Go.Proofs.YtcieihbknfeddabGreatDoor.fnExactDivisorPlain
open Go.ChangeShapes Go.WideShapes Go.ChangeAt Go.RowKit Go.Joins

set_option maxRecDepth 100000 in
theorem contract (H : Type) (enc : TypeId × Value → H) (W : World) (base : Nat) (args : Array Value) (ds gs : List (DataW H)) (before : List MemPlace)
    (hval : ∀ (j : Nat) t v, Tryz.f3.params[j]? = some t → args[j]? = some v → Value.okWide Tryz.prog W .any base t v)
    (hW : DataW.Whole enc Tryz.prog Tryz.f3.params.toList Rows.fnExactDivisorPlainSpec.vars false W args.toList ds gs before) (hL : laidMetH Tryz.prog Rows.fnExactDivisorPlainRow.laid W) :
    Calls Tryz.prog 3 args W fun e W' => ∃ v, e = .returned v ∧ Rows.fnExactDivisorPlainSpec.post enc Tryz.prog Tryz.f3 false true false false W args v W' := by
  have hW' := hW
  obtain ⟨p, q, hA0, hV, rfl, hfz, hnd⟩ := hW
  have hA : DataW.TrodAll enc Tryz.prog W 0 (fun _ => true) true Tryz.f3.params.toList args.toList ds p := hA0
  rw [Tryz.params3] at hA hval
  obtain ⟨v0, vs0, d0, ds0, p0, q0, hargs, rfl, rfl, h0, r0⟩ := trodAll_cons hA
  obtain ⟨v1, vs1, d1, ds1, p1, q1, rfl, rfl, rfl, h1, r1⟩ := trodAll_cons r0
  obtain ⟨rfl, rfl, rfl⟩ := trodAll_nil r1
  obtain rfl : args = #[v0, v1] := by cases args; simp_all
  obtain ⟨rfl, rfl⟩ := trodVars_none hV
  obtain ⟨a0, len0, cap0, rfl⟩ := okWide_slice Tryz.underlying22 (hval 0 22 v0 rfl rfl)
  have k0 := h0
  have lt0 : ∀ x ∈ p0, x.block < W.heap.size := by obtain ⟨m, hm⟩ := k0; exact DataW.trod_lt m _ _ _ hm
  have k1 := h1
  have lt1 : ∀ x ∈ p1, x.block < W.heap.size := by obtain ⟨m, hm⟩ := k1; exact DataW.trod_lt m _ _ _ hm
  have w0 : VecRow W a0 len0 cap0 := by
    obtain ⟨fuel, hf⟩ := h0
    exact vecRow_open (by simpa [Value.cells] using hf)
  obtain ⟨a1, len1, cap1, rfl⟩ := okWide_slice Tryz.underlying23 (hval 1 23 v1 rfl rfl)
  have w1 : IntRow W a1 len1 cap1 := by
    obtain ⟨fuel, hf⟩ := h1
    exact intRow_open (by simpa [Value.cells] using hf)
  clear hA0
  refine (exactDivisorPlain_row a0 len0 cap0 a1 len1 cap1 W w0 w1 (et_of_laid hL)).mono fun e W' ⟨he, hb⟩ => ?_
  subst he
  exact ⟨_, rfl, _, _, _, [], _, [], hW', trodAll_cons_mk (shut_bool Tryz.underlying4 _) trodAll_mk0, (trodAll_cons_mk (Below.trod laidOut (by kernel_rfl) (of_decide_eq_true (by kernel_rfl)) k0 hb lt0) (trodAll_cons_mk (Below.trod laidOut (by kernel_rfl) (of_decide_eq_true (by kernel_rfl)) k1 hb lt1) trodAll_mk0)), rfl, hb.frame _, fun h => by cases h⟩

theorem reads (os : Os) {H : Type} (enc : TypeId × Value → H) : ∃ places, DataW.whole enc Tryz.prog ((laidWorld os).forCall (fun _ _ => 0) ⟨#[], #[.slice none 0 0, .slice none 0 0], []⟩).memory Tryz.f3.params.toList Rows.fnExactDivisorPlainSpec.vars false (#[.slice none 0 0, .slice none 0 0] : Array Value).toList 8 = some ([.nil, .nil], [], places) :=
  ⟨[], by kernel_rfl⟩

set_option maxRecDepth 100000 in
theorem lifted (os : Os) (started : os.Started) (H : Type) (enc : TypeId × Value → H) (F : Stop.Interp) :
    ReturnsInHanded {} Tryz.checked os 3 .any ((OpenSpec.ofChange Rows.fnExactDivisorPlainSpec).preRow enc Tryz.prog Tryz.f3 Rows.fnExactDivisorPlainRow.domain false Rows.fnExactDivisorPlainRow.laid) (((OpenSpec.ofChange Rows.fnExactDivisorPlainSpec).at F).post enc Tryz.prog Tryz.f3 false true false false) := by
  obtain ⟨places, hx⟩ := reads os enc
  refine returnsInHanded_of_row (C := Tryz.checked) (s := OpenSpec.ofChange Rows.fnExactDivisorPlainSpec) own started (by kernel_rfl) Tryz.func3
    (witness_row_at (enc := enc) (C := Tryz.checked) false (laidWorld os) #[.slice none 0 0, .slice none 0 0] rfl (by kernel_rfl) (by kernel_rfl) (by kernel_rfl)
      (OpenSpec.preRow_of_cond 8 hx (by kernel_rfl) (fun k hk => by cases hk) (by kernel_rfl) (laidWorld_met os _))) ?_
  intro W base args ds gs before hval hW _ _ _ hL _ _
  exact contract H enc W base args ds gs before hval hW hL

theorem named : Tryz.prog.funcNamed "loop.example/toricfans/laws.FnExactDivisorPlain" = some 3 := by kernel_rfl

theorem said : Rows.FnExactDivisorPlainSaid :=
  OpenClaim.holds_of_cond 3 Tryz.f3 rfl rfl rfl rfl rfl rfl rfl ⟨rfl, rfl, rfl, rfl, rfl⟩ rfl rfl rfl rfl rfl named Tryz.func3 ((joinS _ _ _ _ _ may_enter lifts_final make_is).2.trans (by kernel_rfl))
    (of_decide_eq_true (by kernel_rfl)) (by unfold Func.isWrapper; first | (rw [if_pos (by decide +kernel)]; kernel_rfl) | (rw [if_neg (by decide +kernel)]; exact ⟨rfl, rfl⟩))
    (fun os started H enc _ F => by rw [OpenClaim.pre_eq_preRow]; exact lifted os started H enc F)

theorem plain (f : FuncId) (fn : Func) (hf : Tryz.pinned.checked.prog.funcNamed "loop.example/toricfans/laws.FnExactDivisorPlain" = some f) (hfn : Tryz.pinned.checked.prog.funcs[f]? = some fn) :
    true = Tryz.pinned.checked.prog.looks [] ∧ ∀ (j : Nat) t, fn.params[j]? = some t → Tryz.pinned.checked.prog.wantsStandIn t = false := by
  obtain rfl : f = 3 := Option.some.inj (named.symm.trans hf) |>.symm
  obtain rfl : fn = Tryz.f3 := (Option.some.inj (Tryz.func3.symm.trans hfn)).symm
  refine ⟨by kernel_rfl, fun j t ht => ?_⟩
  rw [Tryz.params3] at ht
  have hm : t = 22 ∨ t = 23 := by simpa using Array.mem_of_getElem? ht
  rcases hm with rfl | rfl
  · exact (show Tryz.prog.wantsStandIn 22 = false by kernel_rfl)
  · exact (show Tryz.prog.wantsStandIn 23 = false by kernel_rfl)

/-- THE CARD. -/
theorem card : Rows.FnExactDivisorPlainCardSaid :=
  Claim7.holds_tied_plain_at .later [] _ _ _ _ said (fun _ h => by cases h) (by kernel_rfl) (fun _ h => by cases h) fnExactDivisorPlain_row_tie rfl ⟨rfl, rfl⟩ main_is rfl plain (by kernel_rfl)
end Go.Proofs.YtcieihbknfeddabGreatDoor.fnExactDivisorPlain
