import Derived.Test.YtcieihbknfeddaaDoorBd
import Derived.Test.YtcieihbknfeddaaDoorFi
import Derived.Test.YtcieihbknfeddaaDoorK0
namespace Go.Proofs.YtcieihbknfeddaaDoor
open Go.RowKit

set_option maxHeartbeats 4000000 in
theorem exactFanBuild_any (v : Value) (l : List Int) (w : World) (h : ReadsInts w v l) (hg : EtOk w) :
    Calls Tryd.prog 17 #[v] w fun e w' => e = .returned (.bool true) ∧ Below w.heap.size w w' := by
  have h' := h
  obtain ⟨a, c, rfl, hm0, _⟩ := h'
  by_cases hl : 1048576 < l.length
  · have hl' : (1048576 : Int) < (l.length : Int) := by omega
    clear h
    go_enter Tryd.func17, Tryd.ntmps17
    go_wp2
    go_returns
    exact ⟨rfl, Below.refl _ _⟩
  · have hl' : (l.length : Int) ≤ 1048576 := by omega
    have hl2 : l.length ≤ 1048576 := by omega
    have HT := Lib.hid (fun w' h' => toIntS_any (.slice a l.length c) l w' h' hl2)
    have HS := Lib.hid (fun v' w' h' => specFanBuild_any v' l w' h')
    have HM := Lib.hid (fun v' w' h' hg' => fanBuild_any v' l w' h' hg')
    have HX := Lib.hid (fun v1 v2 b1 b2 w' h1 h2 => eqIntS_same v1 v2 b1 b2 l w' h1 h2)
    have HR := Lib.hid (fun (w' : World) (b : Nat) (v' : Value) (h' : Ints w' b v' l) => h'.reads (by omega))
    have HP := Lib.hid (fun v' b w' h' => markIntS_own v' b l w' h' (by omega))
    have hlen : (gV (builtB l) (builtL l)).length ≤ 576460752303423488 := gV_len (fun h => by have := built_len h; omega)
    have HH := Lib.hid h
    generalize builtB l = K at HS HM hlen
    generalize gV K (builtL l) = L at HS HM hlen
    have HE := Lib.hid (fun v1 v2 b1 b2 w' h1 h2 => eqVecS_same v1 v2 b1 b2 L w' h1 h2)
    have HQ := Lib.hid (fun v' b w' h' => markVecS_own v' b L w' h' hlen)
    have HO := Lib.hid (fun v' b w' h' => heldVecS_own v' b L.length w' h' hlen)
    have hz1 : (0 : Int) ≤ ((1 + l.length : Nat) : Int) := by omega
    have hz2 : (0 : Int) ≤ ((1 + L.length * 2 : Nat) : Int) := by omega
    unfold MarkedV at HP
    unfold VMarkedV at HQ
    generalize ((1 + l.length : Nat) : Int) = z1 at hz1 HP
    generalize ((1 + L.length * 2 : Nat) : Int) = z2 at hz2 HQ HO
    generalize marks 1 l.length = M1 at HP
    generalize marks 1 (L.length * 2) = M2 at HQ HO
    generalize l.length = n at *
    generalize L.length = m at *
    clear h hl hl2 hm0 hlen
    go_enter Tryd.func17, Tryd.ntmps17
    go_wp2_with fail
    refine Calls.mono (HT.out _ HH.out) ?_
    rintro e w1 ⟨v1, rfl, I1, hb1⟩
    go_wp2_with fail
    refine Calls.mono (HS.out _ _ (HR.out _ _ _ I1)) ?_
    rintro e w2 ⟨v0, rfl, I0, hb2⟩
    have hA := belowTo hb1 hb2
    have B0 := Lib.hid (fun k hk => (I0.block k hk).2)
    replace I0 := Lib.hid I0
    clear I1 hb1 hb2
    go_wp2_with fail
    refine Calls.mono (HT.out _ (HH.out.below hA)) ?_
    rintro e w3 ⟨vx, rfl, IX, hb3⟩
    have BX := Lib.hid (fun k hk => (IX.block k hk))
    have hwx := hA.size
    have hwx3 := hb3.size
    replace IX := Lib.hid IX
    replace I0 := Lib.hid (I0.out.below hb3)
    replace hA := belowTo hA hb3
    clear hb3
    go_wp2_with fail
    refine Calls.mono (HM.out _ _ (HR.out _ _ _ IX.out) (hg.below hA)) ?_
    rintro e w4 ⟨vg, rfl, IG, hb4⟩
    have BG := Lib.hid (fun k hk => (IG.block k hk))
    have hwg := hA.size
    have hwg4 := hb4.size
    replace IG := Lib.hid IG
    replace I0 := Lib.hid (I0.out.below hb4)
    replace IX := Lib.hid (IX.out.below hb4)
    replace hA := belowTo hA hb4
    clear hb4
    go_wp2_with fail
    refine Calls.mono (HE.out _ _ _ _ _ IG.out I0.out) ?_
    rintro e w5 ⟨rfl, hb5⟩
    replace IG := Lib.hid (IG.out.below hb5)
    replace I0 := Lib.hid (I0.out.below hb5)
    replace IX := Lib.hid (IX.out.below hb5)
    have hs5 := hb5.size
    replace hA := belowTo hA hb5
    clear hb5
    go_wp2_with fail
    refine Calls.mono (HT.out _ (HH.out.below hA)) ?_
    rintro e w6 ⟨v6, rfl, I6, hb6⟩
    replace I6 := Lib.hid I6
    replace IG := Lib.hid (IG.out.below hb6)
    replace I0 := Lib.hid (I0.out.below hb6)
    replace IX := Lib.hid (IX.out.below hb6)
    have hs6 := hb6.size
    replace hA := belowTo hA hb6
    clear hb6
    go_wp2_with fail
    refine Calls.mono (HX.out _ _ _ _ _ IX.out I6.out) ?_
    rintro e w7 ⟨rfl, hb7⟩
    replace IG := Lib.hid (IG.out.below hb7)
    replace I0 := Lib.hid (I0.out.below hb7)
    replace IX := Lib.hid (IX.out.below hb7)
    have hs7 := hb7.size
    replace hA := belowTo hA hb7
    clear hb7 I6
    go_wp2_with fail
    refine Calls.mono (HP.out vx _ _ IX.out) ?_
    rintro e w8 ⟨rfl, _, hG⟩
    have hb8 := grown_below (b := w2.heap.size) hG (by omega) (fun k hk => (BX.out k hk).1)
    have hs8 := hb8.size
    replace I0 := Lib.hid (I0.out.far hG (fun k hk e => by have := B0.out k hk; have := (BX.out k e).1; omega))
    replace IG := Lib.hid (IG.out.far hG (fun k hk e => by have := (BG.out k hk).1; have := (BX.out k e).2; omega))
    replace hA := hA.trans (hb8.mono hwx)
    clear hb8 hG IX
    go_wp2_with fail
    refine Calls.mono (HE.out _ _ _ _ _ IG.out I0.out) ?_
    rintro e w9 ⟨rfl, hb9⟩
    replace IG := Lib.hid (IG.out.below hb9)
    replace I0 := Lib.hid (I0.out.below hb9)
    have hs9 := hb9.size
    replace hA := belowTo hA hb9
    clear hb9
    go_wp2_with fail
    refine Calls.mono (HQ.out vg _ _ IG.out) ?_
    rintro e w10 ⟨rfl, MG, hG⟩
    have hb10 := grown_below (b := w3.heap.size) hG (by omega) (fun k hk => (BG.out k hk).1)
    replace I0 := Lib.hid (I0.out.far hG (fun k hk e => by have := B0.out k hk; have := (BG.out k e).1; omega))
    replace MG := Lib.hid MG
    replace hA := hA.trans (hb10.mono hwg)
    clear hb10 hG IG B0 BX BG hs5 hs6 hs7 hs8 hs9 hwx hwx3 hwg hwg4
    go_wp2_with fail
    refine Calls.mono (HO.out _ _ _ MG.out) ?_
    rintro e wx ⟨rfl, rfl⟩
    go_wp2_with fail
    refine Calls.mono (HT.out _ (HH.out.below hA)) ?_
    rintro e w11 ⟨v11, rfl, I11, hb11⟩
    replace I0 := Lib.hid (I0.out.below hb11)
    replace MG := Lib.hid (MG.out.below hb11)
    replace hA := belowTo hA hb11
    clear hb11
    go_wp2_with fail
    refine Calls.mono (HM.out _ _ (HR.out _ _ _ I11) (hg.below hA)) ?_
    rintro e w12 ⟨v12, rfl, I12, hb12⟩
    replace I12 := Lib.hid I12
    replace I0 := Lib.hid (I0.out.below hb12)
    replace MG := Lib.hid (MG.out.below hb12)
    replace hA := belowTo hA hb12
    clear hb12 I11
    go_wp2_with fail
    refine Calls.mono (HE.out _ _ _ _ _ I12.out I0.out) ?_
    rintro e w13 ⟨rfl, hb13⟩
    replace MG := Lib.hid (MG.out.below hb13)
    replace hA := belowTo hA hb13
    clear hb13 I0 I12
    go_wp2_with fail
    refine Calls.mono (HO.out _ _ _ MG.out) ?_
    rintro e wy ⟨rfl, rfl⟩
    go_wp2
    go_returns
    exact ⟨rfl, hA⟩
set_option maxHeartbeats 1000000 in
theorem exactFanBuild_row (a : Option Addr) (len cap : Nat) (w : World) (h : IntRow w a len cap) (hg : EtOk w) :
    Calls Tryd.prog 17 #[.slice a len cap] w fun e w' => e = .returned (.bool true) ∧ Below w.heap.size w w' := by
  by_cases hl : 1048576 < len
  · have hl' : (1048576 : Int) < (len : Int) := by omega
    clear h
    go_enter Tryd.func17, Tryd.ntmps17
    go_wp2
    go_returns
    exact ⟨rfl, Below.refl _ _⟩
  · obtain ⟨l, rfl, hr⟩ := h.reads (by omega)
    exact exactFanBuild_any _ l w hr hg
end Go.Proofs.YtcieihbknfeddaaDoor
