/- PolygonMixed: both sides. -/
import Derived.Test.YtkcnpbgbgdgkpaaDoorXb
import Derived.Test.YtkcnpbgbgdgkpaaDoorWe
import Derived.Test.YtkcnpbgbgdgkpaaDoorWh
namespace Go.Proofs.YtkcnpbgbgdgkpaaDoor
open Go.RowKit

def mixZ (p q : List V2) : Int := (areaZ (SumL p q) - areaZ p - areaZ q).tdiv 2
theorem sum_parts {p q : List V2} (h : SumB p q = true) : polyB p = true ∧ polyB q = true ∧ polyB (SumL p q) = true := by
  have h' := h
  unfold SumB at h'
  rw [Bool.and_eq_true, Bool.and_eq_true] at h'
  refine ⟨h'.1.1, h'.1.2, ?_⟩
  unfold SumL
  rw [h]
  exact h'.2
theorem poly_areaB {l : List V2} (h : polyB l = true) : -2000000000 ≤ areaZ l ∧ areaZ l ≤ 2000000000 :=
  area_bnd (poly_allV h) (by have := poly_len h; omega) (by have := poly_len h; omega)
set_option maxHeartbeats 4000000 in
theorem polygonMixed_any (v u : Value) (p q : List V2) (w : World) (hl : ReadsVecs w v p) (hl2 : ReadsVecs w u q) (hg : EtOk w) :
    Calls Tryd.prog 19 #[v, u] w fun e w' => e = .returned (.tuple #[.int .i64 (gate (SumB p q) (mixZ p q)), .bool (SumB p q)]) ∧ Below w.heap.size w w' := by
  have HC := Lib.hid (fun B w' (hb : Below w.heap.size w w') c0 c1 hB => checkAll_pp v u p q B w' (hl.below hb) (hl2.below hb) c0 c1 hB)
  have HP := Lib.hid (fun w' (hb : Below w.heap.size w w') hp hq => polyPlus_any v u p q w' (hl.below hb) (hl2.below hb) (hg.below hb) hp hq)
  have HA1 := Lib.hid (fun w' (hb : Below w.heap.size w w') hp => polyArea_any v p w' (hl.below hb) hp)
  have HA2 := Lib.hid (fun w' (hb : Below w.heap.size w w') hq => polyArea_any u q w' (hl2.below hb) hq)
  have HA3 := Lib.hid (fun v' b' w' (hI : VecsR w' b' v' (SumL p q)) hs => polyArea_any v' (SumL p q) w' (hI.reads (SumL_len p q)) hs)
  obtain ⟨a, c, rfl, _⟩ := hl
  obtain ⟨a2, c2, rfl, _⟩ := hl2
  cases hk : (polyB p && polyB q)
  · have hS : SumB p q = false := by unfold SumB; rw [hk]; rfl
    rw [hS]
    rw [hk] at HC
    clear hk HP HA1 HA2 HA3 hS
    go_enter Tryd.func19, Tryd.ntmps19
    go_wp2_with fail
    refine Calls.mono (HC.out _ _ (by go_grown) (by go_cell) (by go_cell) (by go_size)) ?_
    rintro e w1 ⟨he, hb1⟩
    obtain ⟨s, rfl⟩ : IsNone e := he
    have hb : Below w.heap.size w w1 := belowTo (by go_grown) hb1
    clear hb1
    go_wp2_with fail
    refine Calls.mono (none_hit s _ (hg.below hb)) ?_
    rintro e w2 ⟨rfl, hb2⟩
    replace hb := belowTo hb hb2
    clear hb2
    go_wp2
    go_returns
    exact ⟨rfl, hb⟩
  · rw [hk] at HC
    have hk2 : polyB p = true ∧ polyB q = true := by simpa using hk
    have HP2 := Lib.hid (fun w' hb => HP.out w' hb hk2.1 hk2.2)
    have HB1 := Lib.hid (fun w' hb => HA1.out w' hb hk2.1)
    have HB2 := Lib.hid (fun w' hb => HA2.out w' hb hk2.2)
    have hSL : SumL p q = gV (polyB (hullD (smL p q))) (hullD (smL p q)) := by unfold SumL SumB; rw [hk]; rfl
    have hSB : SumB p q = polyB (hullD (smL p q)) := by unfold SumB; rw [hk]; rfl
    rw [← hSL, ← hSB] at HP2
    have HSP := Lib.hid (fun h => (sum_parts (p := p) (q := q) h).2.2)
    have hb1 := poly_areaB hk2.1
    have hb2 := poly_areaB hk2.2
    have HBd := Lib.hid (fun h => poly_areaB ((sum_parts (p := p) (q := q) h).2.2))
    have HM : Hid (mixZ p q = (areaZ (SumL p q) - areaZ p - areaZ q).tdiv 2) := rfl
    clear hk hk2 HP HA1 HA2 hSL hSB
    generalize mixZ p q = M at *
    generalize polyB (SumL p q) = Q at *
    generalize areaZ (SumL p q) = x at *
    generalize areaZ p = y at *
    generalize areaZ q = z at *
    generalize SumL p q = L at *
    cases hs : SumB p q
    · rw [hs] at HP2
      clear HSP HBd HA3 HB1 HB2 HM hb1 hb2 hs
      go_enter Tryd.func19, Tryd.ntmps19
      go_wp2_with fail
      refine Calls.mono (HC.out _ _ (by go_grown) (by go_cell) (by go_cell) (by go_size)) ?_
      rintro e w1 ⟨he, hb1⟩
      obtain rfl : e = .returned .nilIface := he
      have hb : Below w.heap.size w w1 := belowTo (by go_grown) hb1
      clear hb1
      go_wp2_with fail
      refine Calls.mono (none_nil _) ?_
      rintro e w2 ⟨rfl, hb2⟩
      replace hb := belowTo hb hb2
      clear hb2
      go_wp2_with fail
      refine Calls.mono (HP2.out _ hb) ?_
      rintro e w3 ⟨v3, rfl, I3, hb3⟩
      replace hb := belowTo hb hb3
      clear hb3 I3
      go_wp2
      go_returns
      exact ⟨rfl, hb⟩
    · rw [hs] at HP2
      have HA4 := Lib.hid (fun v' b' w' hI => HA3.out v' b' w' hI (HSP.out hs))
      have hb3 := HBd.out hs
      have q1 : IntKind.i64.wrap (x - y) = x - y := by rw [IntKind.wrap_i64]; omega
      have q2 : IntKind.i64.wrap (x - y - z) = x - y - z := by rw [IntKind.wrap_i64]; omega
      have q3 : IntKind.i64.wrap ((x - y - z).tdiv 2) = M := by
        rw [HM.out, IntKind.wrap_i64]
        have := tdiv_bd (x := x - y - z) (n := 6000000000) (m := 2) (by omega)
        omega
      have q4 : (x - y - z).tdiv 2 = M := HM.out.symm
      have q5 : IntKind.i64.wrap M = M := by rw [q4] at q3; exact q3
      clear HSP HBd HA3 HM hb1 hb2 hb3 hs
      go_enter Tryd.func19, Tryd.ntmps19
      go_wp2_with fail
      refine Calls.mono (HC.out _ _ (by go_grown) (by go_cell) (by go_cell) (by go_size)) ?_
      rintro e w1 ⟨he, hb1⟩
      obtain rfl : e = .returned .nilIface := he
      have hb : Below w.heap.size w w1 := belowTo (by go_grown) hb1
      clear hb1
      go_wp2_with fail
      refine Calls.mono (none_nil _) ?_
      rintro e w2 ⟨rfl, hb2⟩
      replace hb := belowTo hb hb2
      clear hb2
      go_wp2_with fail
      refine Calls.mono (HP2.out _ hb) ?_
      rintro e w3 ⟨v3, rfl, I3, hb3⟩
      have HA5 := Lib.hid (HA4.out v3 _ w3 I3)
      replace hb := belowTo hb hb3
      clear hb3 I3 HA4 HP2 HC
      go_wp2_with fail
      refine Calls.mono HA5.out ?_
      rintro e w4 ⟨rfl, hb4⟩
      replace hb := belowTo hb hb4
      clear hb4 HA5
      go_wp2_with fail
      refine Calls.mono (HB1.out _ hb) ?_
      rintro e w5 ⟨rfl, hb5⟩
      replace hb := belowTo hb hb5
      clear hb5 HB1
      go_wp2_with fail
      refine Calls.mono (HB2.out _ hb) ?_
      rintro e w6 ⟨rfl, hb6⟩
      replace hb := belowTo hb hb6
      clear hb6 HB2
      go_wp2
      go_returns
      exact ⟨rfl, hb⟩
set_option maxHeartbeats 4000000 in
theorem specPolygonMixed_any (v u : Value) (p q : List V2) (w : World) (hl : ReadsVecs w v p) (hl2 : ReadsVecs w u q) :
    Calls Tryd.prog 18 #[v, u] w fun e w' => e = .returned (.tuple #[.int .i64 (gate (SumB p q) (mixZ p q)), .bool (SumB p q)]) ∧ Below w.heap.size w w' := by
  have HP := Lib.hid (specPolygonSum_any v u p q w hl hl2)
  have HA1 := Lib.hid (fun w' (hb : Below w.heap.size w w') hp => l6gArea_any v p w' (hl.below hb) hp)
  have HA2 := Lib.hid (fun w' (hb : Below w.heap.size w w') hq => l6gArea_any u q w' (hl2.below hb) hq)
  have HA3 := Lib.hid (fun v' b' w' (hI : Vecs w' b' v' (SumL p q)) hs => l6gArea_any v' (SumL p q) w' (hI.reads (SumL_len p q)) hs)
  have HSP := Lib.hid (fun h => sum_parts (p := p) (q := q) h)
  obtain ⟨a, c, rfl, _⟩ := hl
  obtain ⟨a2, c2, rfl, _⟩ := hl2
  have HM : Hid (mixZ p q = (areaZ (SumL p q) - areaZ p - areaZ q).tdiv 2) := rfl
  cases hs : SumB p q
  · rw [hs] at HP
    clear hs HA1 HA2 HA3 HSP HM
    go_enter Tryd.func18, Tryd.ntmps18
    go_wp2_with fail
    refine Calls.mono HP.out ?_
    rintro e w1 ⟨v1, rfl, I1, hb1⟩
    clear I1
    go_wp2
    go_returns
    exact ⟨rfl, hb1⟩
  · rw [hs] at HP
    obtain ⟨k1, k2, k3⟩ := HSP.out hs
    have HB1 := Lib.hid (fun w' hb => HA1.out w' hb k1)
    have HB2 := Lib.hid (fun w' hb => HA2.out w' hb k2)
    have HB3 := Lib.hid (fun v' b' w' hI => HA3.out v' b' w' hI k3)
    have hb1 := poly_areaB k1
    have hb2 := poly_areaB k2
    have hb3 := poly_areaB k3
    clear hs HA1 HA2 HA3 HSP k1 k2 k3
    generalize mixZ p q = M at *
    generalize areaZ (SumL p q) = x at *
    generalize areaZ p = y at *
    generalize areaZ q = z at *
    generalize SumL p q = L at *
    have q1 : IntKind.i64.wrap (x - y) = x - y := by rw [IntKind.wrap_i64]; omega
    have q2 : IntKind.i64.wrap (x - y - z) = x - y - z := by rw [IntKind.wrap_i64]; omega
    have q3 : IntKind.i64.wrap ((x - y - z).tdiv 2) = M := by
      rw [HM.out, IntKind.wrap_i64]
      have := tdiv_bd (x := x - y - z) (n := 6000000000) (m := 2) (by omega)
      omega
    have q4 : (x - y - z).tdiv 2 = M := HM.out.symm
    have q5 : IntKind.i64.wrap M = M := by rw [q4] at q3; exact q3
    clear HM hb1 hb2 hb3
    go_enter Tryd.func18, Tryd.ntmps18
    go_wp2_with fail
    refine Calls.mono HP.out ?_
    rintro e w1 ⟨v1, rfl, I1, hb⟩
    have HA5 := Lib.hid (HB3.out v1 _ w1 I1)
    clear I1 HB3 HP
    go_wp2_with fail
    refine Calls.mono HA5.out ?_
    rintro e w4 ⟨rfl, hb4⟩
    replace hb := belowTo hb hb4
    clear hb4 HA5
    go_wp2_with fail
    refine Calls.mono (HB1.out _ hb) ?_
    rintro e w5 ⟨rfl, hb5⟩
    replace hb := belowTo hb hb5
    clear hb5 HB1
    go_wp2_with fail
    refine Calls.mono (HB2.out _ hb) ?_
    rintro e w6 ⟨rfl, hb6⟩
    replace hb := belowTo hb hb6
    clear hb6 HB2
    go_wp2
    go_returns
    exact ⟨rfl, hb⟩
end Go.Proofs.YtkcnpbgbgdgkpaaDoor
