import Derived.Test.YtcieihbknfeddaaDoorGu
import Derived.Test.YtcieihbknfeddaaDoorI1
import Derived.Test.YtcieihbknfeddaaDoorBl
namespace Go.Proofs.YtcieihbknfeddaaDoor
open Go.RowKit

set_option maxHeartbeats 8000000 in
theorem exactFanLeast_any (v : Value) (l : List V2) (w : World) (h : ReadsVecs w v l) (hg : EtOk w) :
    Calls Tryd.prog 13 #[v] w fun e w' => e = .returned (.bool true) ∧ Below w.heap.size w w' := by
  have h' := h
  obtain ⟨a, c, rfl, _, hm0, _⟩ := h'
  have HZ := Lib.hid (fun w' => szVecS_any a l.length c w' (by omega))
  by_cases hl : l.length ≤ 1048576
  case neg =>
    rw [if_neg hl] at HZ
    clear h
    go_enter Tryd.func13, Tryd.ntmps13
    go_wp2_with fail
    refine Calls.mono (HZ.out _) ?_
    rintro e w1 ⟨rfl, rfl⟩
    go_wp2
    go_returns
    exact ⟨rfl, by go_grown⟩
  case pos =>
    rw [if_pos hl] at HZ
    have HT := Lib.hid (fun w' h' => toVecS_any (.slice a l.length c) l w' h' hl)
    have HS := Lib.hid (fun v' w' h' => specFanLeast_any v' l w' h')
    have HM := Lib.hid (fun v' w' h' hg' => fanLeast_any v' l w' h' hg')
    have HX := Lib.hid (fun v1 v2 b1 b2 w' h1 h2 => eqVecS_same v1 v2 b1 b2 l w' h1 h2)
    have HR := Lib.hid (fun (w' : World) (b : Nat) (v' : Value) (h' : Vecs w' b v' l) => h'.reads (by omega))
    have HH := Lib.hid h
    have HH0 := Lib.hid h
    have hz0 : ¬ 1048576 - (l.length : Int) < 0 := by omega
    have hlen : (gV (smoothB l) (tidyL (leastL l))).length ≤ 576460752303423488 := gV_len (fun h => by have := fan_len (smooth_in h).1; have := least_len l; rw [tidyL_len]; omega)
    generalize smoothB l = K at HS HM hlen
    generalize gV K (tidyL (leastL l)) = L at HS HM hlen
    have HP := Lib.hid (fun v' b w' h' => markVecS_own v' b l w' h' (by omega))
    have HE := Lib.hid (fun v1 v2 b1 b2 w' h1 h2 => eqVecS_same v1 v2 b1 b2 L w' h1 h2)
    have HQ := Lib.hid (fun v' b w' h' => markVecS_own v' b L w' h' hlen)
    have HO := Lib.hid (fun v' b w' h' => heldVecS_own v' b L.length w' h' hlen)
    have hz1 : (0 : Int) ≤ ((1 + l.length * 2 : Nat) : Int) := by omega
    have hz2 : (0 : Int) ≤ ((1 + L.length * 2 : Nat) : Int) := by omega
    unfold VMarkedV at HP
    unfold VMarkedV at HQ
    generalize ((1 + l.length * 2 : Nat) : Int) = z1 at hz1 HP
    generalize ((1 + L.length * 2 : Nat) : Int) = z2 at hz2 HQ HO
    generalize marks 1 (l.length * 2) = M1 at HP
    generalize marks 1 (L.length * 2) = M2 at HQ HO
    generalize l.length = n at *
    generalize L.length = m at *
    clear h hl hm0 hlen
    go_enter Tryd.func13, Tryd.ntmps13
    go_wp2_with fail
    refine Calls.mono (HZ.out _) ?_
    rintro e w0 ⟨rfl, rfl⟩
    have hA : Below w.heap.size w w := Below.refl _ _
    go_wp2_with fail
    refine Calls.mono (HT.out _ HH.out) ?_
    rintro e w1 ⟨v1, rfl, Iv1, hb1⟩
    replace HH := Lib.hid (HH.out.below hb1)
    replace Iv1 := Lib.hid Iv1
    replace hA := belowTo hA hb1
    clear hb1
    go_wp2_with fail
    refine Calls.mono (HS.out _ _ (HR.out _ _ _ Iv1.out)) ?_
    rintro e w2 ⟨v0, rfl, I0, hb2⟩
    have B0 := Lib.hid (fun k hk => (I0.block k hk).2)
    replace HH := Lib.hid (HH.out.below hb2)
    replace I0 := Lib.hid I0
    replace hA := belowTo hA hb2
    clear hb2 Iv1
    have hwx := hA.size
    go_wp2_with fail
    refine Calls.mono (HT.out _ HH.out) ?_
    rintro e w3 ⟨vx, rfl, Ivx, hb3⟩
    have BX := Lib.hid (fun k hk => (Ivx.block k hk))
    have hs3 := hb3.size
    replace HH := Lib.hid (HH.out.below hb3)
    replace I0 := Lib.hid (I0.out.below hb3)
    replace Ivx := Lib.hid Ivx
    replace hA := belowTo hA hb3
    clear hb3
    have hwg := hA.size
    go_wp2_with fail
    refine Calls.mono (HM.out _ _ (HR.out _ _ _ Ivx.out) (hg.below hA)) ?_
    rintro e w4 ⟨vg, rfl, IG, hb4⟩
    have BG := Lib.hid (fun k hk => (IG.block k hk))
    have hs4 := hb4.size
    replace HH := Lib.hid (HH.out.below hb4)
    replace I0 := Lib.hid (I0.out.below hb4)
    replace Ivx := Lib.hid (Ivx.out.below hb4)
    replace IG := Lib.hid IG
    replace hA := belowTo hA hb4
    clear hb4
    go_wp2_with fail
    refine Calls.mono (HE.out _ _ _ _ _ IG.out I0.out) ?_
    rintro e w5 ⟨rfl, hb5⟩
    have hs5 := hb5.size
    replace HH := Lib.hid (HH.out.below hb5)
    replace I0 := Lib.hid (I0.out.below hb5)
    replace Ivx := Lib.hid (Ivx.out.below hb5)
    replace IG := Lib.hid (IG.out.below hb5)
    replace hA := belowTo hA hb5
    clear hb5
    go_wp2_with fail
    refine Calls.mono (HT.out _ HH.out) ?_
    rintro e w6 ⟨v6, rfl, I6, hb6⟩
    have hs6 := hb6.size
    replace HH := Lib.hid (HH.out.below hb6)
    replace I0 := Lib.hid (I0.out.below hb6)
    replace Ivx := Lib.hid (Ivx.out.below hb6)
    replace IG := Lib.hid (IG.out.below hb6)
    replace I6 := Lib.hid I6
    replace hA := belowTo hA hb6
    clear hb6
    go_wp2_with fail
    refine Calls.mono (HX.out _ _ _ _ _ Ivx.out I6.out) ?_
    rintro e w7 ⟨rfl, hb7⟩
    have hs7 := hb7.size
    replace HH := Lib.hid (HH.out.below hb7)
    replace I0 := Lib.hid (I0.out.below hb7)
    replace Ivx := Lib.hid (Ivx.out.below hb7)
    replace IG := Lib.hid (IG.out.below hb7)
    replace hA := belowTo hA hb7
    clear hb7 I6
    go_wp2_with fail
    refine Calls.mono (HP.out vx _ _ Ivx.out) ?_
    rintro e w8 ⟨rfl, _, hG⟩
    have hb8 := grown_below (b := w2.heap.size) hG (by omega) (fun k hk => (BX.out k hk).1)
    have hs8 := hb8.size
    replace I0 := Lib.hid (I0.out.far hG (fun k hk e => by have := B0.out k hk; have := (BX.out k e).1; omega))
    replace IG := Lib.hid (IG.out.far hG (fun k hk e => by have := (BG.out k hk).1; have := (BX.out k e).2; omega))
    replace HH := Lib.hid (HH0.out.below (hA.trans (hb8.mono hwx)))
    replace hA := hA.trans (hb8.mono hwx)
    clear hb8 hG Ivx
    go_wp2_with fail
    refine Calls.mono (HE.out _ _ _ _ _ IG.out I0.out) ?_
    rintro e w9 ⟨rfl, hb9⟩
    have hs9 := hb9.size
    replace HH := Lib.hid (HH.out.below hb9)
    replace I0 := Lib.hid (I0.out.below hb9)
    replace IG := Lib.hid (IG.out.below hb9)
    replace hA := belowTo hA hb9
    clear hb9
    go_wp2_with fail
    refine Calls.mono (HQ.out vg _ _ IG.out) ?_
    rintro e w10 ⟨rfl, MG, hG⟩
    have hb10 := grown_below (b := w3.heap.size) hG (by omega) (fun k hk => (BG.out k hk).1)
    replace I0 := Lib.hid (I0.out.far hG (fun k hk e => by have := B0.out k hk; have := (BG.out k e).1; omega))
    replace MG := Lib.hid MG
    replace HH := Lib.hid (HH0.out.below (hA.trans (hb10.mono hwg)))
    replace hA := hA.trans (hb10.mono hwg)
    clear hb10 hG IG B0 BX BG hs3 hs4 hs5 hs6 hs7 hs8 hs9 hwx hwg
    go_wp2_with fail
    refine Calls.mono (HO.out _ _ _ MG.out) ?_
    rintro e wq ⟨rfl, rfl⟩
    go_wp2_with fail
    refine Calls.mono (HT.out _ HH.out) ?_
    rintro e w11 ⟨v11, rfl, I11, hb11⟩
    replace HH := Lib.hid (HH.out.below hb11)
    replace I0 := Lib.hid (I0.out.below hb11)
    replace MG := Lib.hid (MG.out.below hb11)
    replace I11 := Lib.hid I11
    replace hA := belowTo hA hb11
    clear hb11
    go_wp2_with fail
    refine Calls.mono (HM.out _ _ (HR.out _ _ _ I11.out) (hg.below hA)) ?_
    rintro e w12 ⟨v12, rfl, I12, hb12⟩
    replace I0 := Lib.hid (I0.out.below hb12)
    replace MG := Lib.hid (MG.out.below hb12)
    replace I12 := Lib.hid I12
    replace hA := belowTo hA hb12
    clear hb12 I11
    go_wp2_with fail
    refine Calls.mono (HE.out _ _ _ _ _ I12.out I0.out) ?_
    rintro e w13 ⟨rfl, hb13⟩
    replace MG := Lib.hid (MG.out.below hb13)
    replace hA := belowTo hA hb13
    clear hb13 I0 I12
    go_wp2_with fail
    refine Calls.mono (HO.out _ _ _ MG.out) ?_
    rintro e wr ⟨rfl, rfl⟩
    go_wp2
    go_returns
    exact ⟨rfl, hA⟩
set_option maxHeartbeats 4000000 in
theorem exactFanLeast_row (a : Option Addr) (len cap : Nat) (w : World) (h : VecRow w a len cap) (hg : EtOk w) :
    Calls Tryd.prog 13 #[.slice a len cap] w fun e w' => e = .returned (.bool true) ∧ Below w.heap.size w w' := by
  by_cases hl : len ≤ 1048576
  · obtain ⟨l, rfl, hr⟩ := h.reads hl
    exact exactFanLeast_any _ l w hr hg
  · have HZ := Lib.hid (fun w' => szVecS_any a len cap w' h.le_max)
    rw [if_neg hl] at HZ
    clear h
    go_enter Tryd.func13, Tryd.ntmps13
    go_wp2_with fail
    refine Calls.mono (HZ.out _) ?_
    rintro e w1 ⟨rfl, rfl⟩
    go_wp2
    go_returns
    exact ⟨rfl, by go_grown⟩
end Go.Proofs.YtcieihbknfeddaaDoor
