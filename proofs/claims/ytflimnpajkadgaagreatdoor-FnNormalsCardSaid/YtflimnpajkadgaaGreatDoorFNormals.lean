/- FnNormals: the walk. -/
import Derived.Test.YtflimnpajkadgaaGreatDoorK9
import Derived.Test.YtflimnpajkadgaaGreatDoorK3
import Derived.Test.YtflimnpajkadgaaGreatDoorK0
import Derived.Test.YtflimnpajkadgaaGreatDoorK5
import Derived.Test.YtflimnpajkadgaaGreatDoorB9
import Derived.Test.YtflimnpajkadgaaGreatDoorK2
namespace Go.Proofs.YtflimnpajkadgaaGreatDoor
open Go.RowKit

set_option maxRecDepth 100000 in
set_option maxHeartbeats 16000000 in
theorem fnNormals_any (a : Option Addr) (len cap : Nat) (w : World) (h : Bytes w a len cap) (hg : EtOk w) :
    Calls Tryz.prog 5 #[.slice a len cap] w fun e w' => e = .returned (.bool true) ∧ Below w.heap.size w w' := by
  by_cases hlen : len ≤ 1048576
  case neg =>
    have j1 : (1048576 : Int) < (len : Int) := by omega
    clear h hg
    go_enter Tryz.func5, Tryz.ntmps5
    go_wp2
    go_returns
    exact ⟨rfl, by go_grown⟩
  case pos =>
  have j1 : (len : Int) ≤ 1048576 := by omega
  have HO := Lib.hid (drawPolygonNormals_any w a len cap h)
  clear h
  go_enter Tryz.func5, Tryz.ntmps5
  go_wp2_with fail
  refine Calls.mono HO.out ?_
  rintro e w1 ⟨v, l, rfl, hV, h2, h20, hb1⟩
  have HG := Lib.hid (hg.below hb1)
  have Hf := Lib.hid hV
  have HB : Hid (Below w.heap.size w w1) := hb1
  clear hb1 HO hg hV
  cases hk : (polyB l && fanB (nrmL l))
  · have C1 : Hid (∀ (w' : World) (v0 : Value), ReadsVecs w' v0 (l) → EtOk w' → Calls Tryz.prog 16 #[v0] w' (GivesVecsOk w' ([]) (false))) := fun w' v0 h0 hg' => by
      have h := polygonNormals_any v0 l w' h0 hg'
      rw [hk] at h
      exact h
    have C2 : Hid (∀ (w' : World) (v0 : Value), ReadsVecs w' v0 (l) → EtOk w' → Calls Tryz.prog 17 #[v0] w' (GivesVecsOk w' ([]) (false))) := fun w' v0 h0 hg' => by
      have h := specPolygonNormals_any v0 l w' h0
      rw [hk] at h
      exact h
    clear hk
    go_wp2_with fail
    refine Calls.mono (C1.out _ _ (Hf.out.below (by go_grown)) (HG.out.below (by go_grown))) ?_
    rintro e w2 ⟨v2, rfl, hI2, hb2⟩
    have hB2 := belowTo (a := w1) (by go_grown) hb2
    replace Hf := Lib.hid (Hf.out.below hB2)
    replace HG := Lib.hid (HG.out.below hB2)
    replace HB := Lib.hid (belowTo HB.out hB2)
    clear hb2 hB2
    have Ho1 := Lib.hid (Vecs.reads hI2 (by simp))
    clear hI2
    go_wp2_with fail
    refine Calls.mono (C2.out _ _ (Hf.out.below (by go_grown)) (HG.out.below (by go_grown))) ?_
    rintro e w3 ⟨v3, rfl, hI3, hb3⟩
    have hB3 := belowTo (a := w2) (by go_grown) hb3
    replace Hf := Lib.hid (Hf.out.below hB3)
    replace Ho1 := Lib.hid (Ho1.out.below hB3)
    replace HG := Lib.hid (HG.out.below hB3)
    replace HB := Lib.hid (belowTo HB.out hB3)
    clear hb3 hB3
    have Ho2 := Lib.hid (Vecs.reads hI3 (by simp))
    clear hI3
    go_wp2_with fail
    refine Calls.mono (sameVecs_eq _ _ _ _ (Ho1.out.below (by go_grown)) (Ho2.out.below (by go_grown))) ?_
    rintro e w4 ⟨rfl, hb4⟩
    have hB4 := belowTo (a := w3) (by go_grown) hb4
    replace Hf := Lib.hid (Hf.out.below hB4)
    replace Ho1 := Lib.hid (Ho1.out.below hB4)
    replace Ho2 := Lib.hid (Ho2.out.below hB4)
    replace HG := Lib.hid (HG.out.below hB4)
    replace HB := Lib.hid (belowTo HB.out hB4)
    clear hb4 hB4
    go_wp2_with fail
    refine Calls.mono (sameVecs_eq _ _ _ _ (Ho1.out.below (by go_grown)) (Ho2.out.below (by go_grown))) ?_
    rintro e w5 ⟨rfl, hb5⟩
    have hB5 := belowTo (a := w4) (by go_grown) hb5
    replace Hf := Lib.hid (Hf.out.below hB5)
    replace Ho1 := Lib.hid (Ho1.out.below hB5)
    replace Ho2 := Lib.hid (Ho2.out.below hB5)
    replace HG := Lib.hid (HG.out.below hB5)
    replace HB := Lib.hid (belowTo HB.out hB5)
    clear hb5 hB5
    go_wp2
    go_returns
    exact ⟨rfl, HB.out⟩
  · have C1 : Hid (∀ (w' : World) (v0 : Value), ReadsVecs w' v0 (l) → EtOk w' → Calls Tryz.prog 16 #[v0] w' (GivesVecsOk w' (tidyL (nrmL l)) (true))) := fun w' v0 h0 hg' => by
      have h := polygonNormals_any v0 l w' h0 hg'
      rw [hk] at h
      exact h
    have C2 : Hid (∀ (w' : World) (v0 : Value), ReadsVecs w' v0 (l) → EtOk w' → Calls Tryz.prog 17 #[v0] w' (GivesVecsOk w' (tidyL (nrmL l)) (true))) := fun w' v0 h0 hg' => by
      have h := specPolygonNormals_any v0 l w' h0
      rw [hk] at h
      exact h
    rw [Bool.and_eq_true] at hk
    obtain ⟨hk, hf⟩ := hk
    have q1 := fan_tidyF hf
    have HL : Hid ((tidyL (nrmL l)).length = l.length) := by show _ = _; rw [tidyL_len, nrm_len]
    have pn := pc_normals hk hf
    have HL2 : Hid ((tidyL (nrmL l)).length ≤ 1000) := by show _ ≤ _; have := HL.out; omega
    have C5 : Hid (∀ (w' : World) (v0 : Value), ReadsVecs w' v0 (tidyL (nrmL l)) → EtOk w' → Calls Tryz.prog 19 #[v0] w' (fun e w'' => e = .returned (.bool (true)) ∧ Below w'.heap.size w' w'')) := fun w' v0 h0 hg' => by
      have h := fanIn_any v0 (tidyL (nrmL l)) w' h0 hg'
      rw [q1] at h
      exact h
    cases hk2 : polyB (l.map (timesF 2))
    · have t1 : TimesB l 2 = true := by unfold TimesB; rw [hk]; rfl
      have C3 : Hid (∀ (w' : World) (v0 : Value), ReadsVecs w' v0 (l) → EtOk w' → Calls Tryz.prog 9 #[v0, .int .i64 (2)] w' (GivesVecsR w' ([]) (false))) := fun w' v0 h0 hg' => by
        have h := polygonTimes_any v0 (l) (2) w' h0 hg'
        unfold TimesL at h; rw [t1, hk2] at h
        exact h
      have C4 : Hid (∀ (w' : World) (v0 : Value), ReadsVecs w' v0 ([]) → EtOk w' → Calls Tryz.prog 16 #[v0] w' (GivesVecsOk w' ([]) (false))) := fun w' v0 h0 hg' => by
        have h := polygonNormals_any v0 ([]) w' h0 hg'
        exact h
      clear pn
      generalize tidyL (nrmL l) = n at *
      clear hk hk2 hf t1 q1
      obtain ⟨va, vc, rfl, _⟩ := Hf.out
      go_wp2_with fail
      refine Calls.mono (C1.out _ _ (Hf.out.below (by go_grown)) (HG.out.below (by go_grown))) ?_
      rintro e w2 ⟨v2, rfl, hI2, hb2⟩
      have hB2 := belowTo (a := w1) (by go_grown) hb2
      replace Hf := Lib.hid (Hf.out.below hB2)
      replace HG := Lib.hid (HG.out.below hB2)
      replace HB := Lib.hid (belowTo HB.out hB2)
      clear hb2 hB2
      have Ho := Lib.hid (Vecs.reads hI2 (by have := HL2.out; omega))
      clear hI2
      go_wp2_with fail
      refine Calls.mono (C2.out _ _ (Hf.out.below (by go_grown)) (HG.out.below (by go_grown))) ?_
      rintro e w3 ⟨v3, rfl, hI3, hb3⟩
      have hB3 := belowTo (a := w2) (by go_grown) hb3
      replace Hf := Lib.hid (Hf.out.below hB3)
      replace Ho := Lib.hid (Ho.out.below hB3)
      replace HG := Lib.hid (HG.out.below hB3)
      replace HB := Lib.hid (belowTo HB.out hB3)
      clear hb3 hB3
      have Ho2 := Lib.hid (Vecs.reads hI3 (by have := HL2.out; omega))
      clear hI3
      go_wp2_with fail
      refine Calls.mono (sameVecs_eq _ _ _ _ (Ho.out.below (by go_grown)) (Ho2.out.below (by go_grown))) ?_
      rintro e w4 ⟨rfl, hb4⟩
      have hB4 := belowTo (a := w3) (by go_grown) hb4
      replace Hf := Lib.hid (Hf.out.below hB4)
      replace Ho := Lib.hid (Ho.out.below hB4)
      replace Ho2 := Lib.hid (Ho2.out.below hB4)
      replace HG := Lib.hid (HG.out.below hB4)
      replace HB := Lib.hid (belowTo HB.out hB4)
      clear hb4 hB4
      clear Ho2
      go_wp2_with fail
      refine Calls.mono (C3.out _ _ (Hf.out.below (by go_grown)) (HG.out.below (by go_grown))) ?_
      rintro e w5 ⟨v5, rfl, hI5, hb5⟩
      have hB5 := belowTo (a := w4) (by go_grown) hb5
      replace Hf := Lib.hid (Hf.out.below hB5)
      replace Ho := Lib.hid (Ho.out.below hB5)
      replace HG := Lib.hid (HG.out.below hB5)
      replace HB := Lib.hid (belowTo HB.out hB5)
      clear hb5 hB5
      have Hm := Lib.hid (VecsR.reads hI5 (by simp))
      clear hI5
      go_wp2_with fail
      refine Calls.mono (C4.out _ _ (Hm.out.below (by go_grown)) (HG.out.below (by go_grown))) ?_
      rintro e w6 ⟨v6, rfl, hI6, hb6⟩
      have hB6 := belowTo (a := w5) (by go_grown) hb6
      replace Hf := Lib.hid (Hf.out.below hB6)
      replace Ho := Lib.hid (Ho.out.below hB6)
      replace Hm := Lib.hid (Hm.out.below hB6)
      replace HG := Lib.hid (HG.out.below hB6)
      replace HB := Lib.hid (belowTo HB.out hB6)
      clear hb6 hB6
      have Hx := Lib.hid (Vecs.reads hI6 (by simp))
      clear hI6
      obtain ⟨oa, oc, rfl, -⟩ := id Ho.out
      have hl : (n.length : Int) = (l.length : Int) := by have := HL.out; omega
      go_wp2_with fail
      refine Calls.mono (C5.out _ _ (Ho.out.below (by go_grown)) (HG.out.below (by go_grown))) ?_
      rintro e w7 ⟨rfl, hb7⟩
      have hB7 := belowTo (a := w6) (by go_grown) hb7
      replace Hf := Lib.hid (Hf.out.below hB7)
      replace Ho := Lib.hid (Ho.out.below hB7)
      replace Hm := Lib.hid (Hm.out.below hB7)
      replace Hx := Lib.hid (Hx.out.below hB7)
      replace HG := Lib.hid (HG.out.below hB7)
      replace HB := Lib.hid (belowTo HB.out hB7)
      clear hb7 hB7
      go_wp2
      go_returns
      exact ⟨rfl, HB.out⟩
    · have t1 : TimesB l 2 = true := by unfold TimesB; rw [hk]; rfl
      have C3 : Hid (∀ (w' : World) (v0 : Value), ReadsVecs w' v0 (l) → EtOk w' → Calls Tryz.prog 9 #[v0, .int .i64 (2)] w' (GivesVecsR w' (tidyP (l.map (timesF 2))) (true))) := fun w' v0 h0 hg' => by
        have h := polygonTimes_any v0 (l) (2) w' h0 hg'
        unfold TimesL at h; rw [t1, hk2] at h
        exact h
      have pt : polyB (tidyP (l.map (timesF 2))) = true := by rw [tidyP_poly]; exact hk2
      have C4 : Hid (∀ (w' : World) (v0 : Value), ReadsVecs w' v0 (tidyP (l.map (timesF 2))) → EtOk w' → Calls Tryz.prog 16 #[v0] w' (GivesVecsOk w' (tidyL (nrmL l)) (true))) := fun w' v0 h0 hg' => by
        have h := polygonNormals_any v0 (tidyP (l.map (timesF 2))) w' h0 hg'
        rw [pt, pn.1, pn.2] at h
        exact h
      clear pn
      clear pt
      have HM : Hid ((tidyP (l.map (timesF 2))).length ≤ 1000) := by show _ ≤ _; rw [tidyP_len]; simp; omega
      generalize tidyP (l.map (timesF 2)) = m at *
      generalize tidyL (nrmL l) = n at *
      clear hk hk2 hf t1 q1
      obtain ⟨va, vc, rfl, _⟩ := Hf.out
      go_wp2_with fail
      refine Calls.mono (C1.out _ _ (Hf.out.below (by go_grown)) (HG.out.below (by go_grown))) ?_
      rintro e w2 ⟨v2, rfl, hI2, hb2⟩
      have hB2 := belowTo (a := w1) (by go_grown) hb2
      replace Hf := Lib.hid (Hf.out.below hB2)
      replace HG := Lib.hid (HG.out.below hB2)
      replace HB := Lib.hid (belowTo HB.out hB2)
      clear hb2 hB2
      have Ho := Lib.hid (Vecs.reads hI2 (by have := HL2.out; omega))
      clear hI2
      go_wp2_with fail
      refine Calls.mono (C2.out _ _ (Hf.out.below (by go_grown)) (HG.out.below (by go_grown))) ?_
      rintro e w3 ⟨v3, rfl, hI3, hb3⟩
      have hB3 := belowTo (a := w2) (by go_grown) hb3
      replace Hf := Lib.hid (Hf.out.below hB3)
      replace Ho := Lib.hid (Ho.out.below hB3)
      replace HG := Lib.hid (HG.out.below hB3)
      replace HB := Lib.hid (belowTo HB.out hB3)
      clear hb3 hB3
      have Ho2 := Lib.hid (Vecs.reads hI3 (by have := HL2.out; omega))
      clear hI3
      go_wp2_with fail
      refine Calls.mono (sameVecs_eq _ _ _ _ (Ho.out.below (by go_grown)) (Ho2.out.below (by go_grown))) ?_
      rintro e w4 ⟨rfl, hb4⟩
      have hB4 := belowTo (a := w3) (by go_grown) hb4
      replace Hf := Lib.hid (Hf.out.below hB4)
      replace Ho := Lib.hid (Ho.out.below hB4)
      replace Ho2 := Lib.hid (Ho2.out.below hB4)
      replace HG := Lib.hid (HG.out.below hB4)
      replace HB := Lib.hid (belowTo HB.out hB4)
      clear hb4 hB4
      clear Ho2
      go_wp2_with fail
      refine Calls.mono (C3.out _ _ (Hf.out.below (by go_grown)) (HG.out.below (by go_grown))) ?_
      rintro e w5 ⟨v5, rfl, hI5, hb5⟩
      have hB5 := belowTo (a := w4) (by go_grown) hb5
      replace Hf := Lib.hid (Hf.out.below hB5)
      replace Ho := Lib.hid (Ho.out.below hB5)
      replace HG := Lib.hid (HG.out.below hB5)
      replace HB := Lib.hid (belowTo HB.out hB5)
      clear hb5 hB5
      have Hm := Lib.hid (VecsR.reads hI5 (by have := HM.out; omega))
      clear hI5
      go_wp2_with fail
      refine Calls.mono (C4.out _ _ (Hm.out.below (by go_grown)) (HG.out.below (by go_grown))) ?_
      rintro e w6 ⟨v6, rfl, hI6, hb6⟩
      have hB6 := belowTo (a := w5) (by go_grown) hb6
      replace Hf := Lib.hid (Hf.out.below hB6)
      replace Ho := Lib.hid (Ho.out.below hB6)
      replace Hm := Lib.hid (Hm.out.below hB6)
      replace HG := Lib.hid (HG.out.below hB6)
      replace HB := Lib.hid (belowTo HB.out hB6)
      clear hb6 hB6
      have Hx := Lib.hid (Vecs.reads hI6 (by have := HL2.out; omega))
      clear hI6
      obtain ⟨oa, oc, rfl, -⟩ := id Ho.out
      have hl : (n.length : Int) = (l.length : Int) := by have := HL.out; omega
      go_wp2_with fail
      refine Calls.mono (C5.out _ _ (Ho.out.below (by go_grown)) (HG.out.below (by go_grown))) ?_
      rintro e w7 ⟨rfl, hb7⟩
      have hB7 := belowTo (a := w6) (by go_grown) hb7
      replace Hf := Lib.hid (Hf.out.below hB7)
      replace Ho := Lib.hid (Ho.out.below hB7)
      replace Hm := Lib.hid (Hm.out.below hB7)
      replace Hx := Lib.hid (Hx.out.below hB7)
      replace HG := Lib.hid (HG.out.below hB7)
      replace HB := Lib.hid (belowTo HB.out hB7)
      clear hb7 hB7
      go_wp2_with fail
      refine Calls.mono (sameVecs_eq _ _ _ _ (Hx.out.below (by go_grown)) (Ho.out.below (by go_grown))) ?_
      rintro e w8 ⟨rfl, hb8⟩
      have hB8 := belowTo (a := w7) (by go_grown) hb8
      replace Hf := Lib.hid (Hf.out.below hB8)
      replace Ho := Lib.hid (Ho.out.below hB8)
      replace Hm := Lib.hid (Hm.out.below hB8)
      replace Hx := Lib.hid (Hx.out.below hB8)
      replace HG := Lib.hid (HG.out.below hB8)
      replace HB := Lib.hid (belowTo HB.out hB8)
      clear hb8 hB8
      go_wp2
      go_returns
      exact ⟨rfl, HB.out⟩
end Go.Proofs.YtflimnpajkadgaaGreatDoor
