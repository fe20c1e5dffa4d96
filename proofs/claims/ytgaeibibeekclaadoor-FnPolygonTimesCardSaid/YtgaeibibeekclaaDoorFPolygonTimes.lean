/- FnPolygonTimes: the walk. -/
import Derived.Test.YtgaeibibeekclaaDoorK9
import Derived.Test.YtgaeibibeekclaaDoorK6
import Derived.Test.YtgaeibibeekclaaDoorK0
import Derived.Test.YtgaeibibeekclaaDoorK2
import Derived.Test.YtgaeibibeekclaaDoorYn
import Derived.Test.YtgaeibibeekclaaDoorK1
import Derived.Test.YtgaeibibeekclaaDoorK8
namespace Go.Proofs.YtgaeibibeekclaaDoor
open Go.RowKit

set_option maxRecDepth 100000 in
set_option maxHeartbeats 16000000 in
theorem fnPolygonTimes_any (a : Option Addr) (len cap : Nat) (w : World) (h : Bytes w a len cap) (hg : EtOk w) :
    Calls Tryd.prog 4 #[.slice a len cap] w fun e w' => e = .returned (.bool true) ∧ Below w.heap.size w w' := by
  by_cases hlen : len ≤ 1048576
  case neg =>
    have j1 : (1048576 : Int) < (len : Int) := by omega
    clear h hg
    go_enter Tryd.func4, Tryd.ntmps4
    go_wp2
    go_returns
    exact ⟨rfl, by go_grown⟩
  case pos =>
  have j1 : (len : Int) ≤ 1048576 := by omega
  have HO := Lib.hid (drawPolygonTimes_any w a len cap h)
  clear h
  go_enter Tryd.func4, Tryd.ntmps4
  go_wp2_with fail
  refine Calls.mono HO.out ?_
  rintro e w1 ⟨v, l, n, rfl, hV, h2, h20, hb1⟩
  have HG := Lib.hid (hg.below hb1)
  have Hf := Lib.hid hV
  have HB : Hid (Below w.heap.size w w1) := hb1
  clear hb1 HO hg hV
  cases hk : (TimesB l n && polyB (l.map (timesF n)))
  · have C1 : Hid (∀ (w' : World) (v0 : Value), ReadsVecs w' v0 (l) → EtOk w' → Calls Tryd.prog 15 #[v0, .int .i64 (n)] w' (GivesVecsR w' ([]) (false))) := fun w' v0 h0 hg' => by
      have h := polygonTimes_any v0 l (n) w' h0 hg'
      unfold TimesL at h; rw [hk] at h
      exact h
    have C2 : Hid (∀ (w' : World) (v0 : Value), ReadsVecs w' v0 (l) → EtOk w' → Calls Tryd.prog 16 #[v0, .int .i64 (n)] w' (GivesVecsOk w' ([]) (false))) := fun w' v0 h0 hg' => by
      have h := specPolygonTimes_any v0 l (n) w' h0
      unfold TimesL at h; rw [hk] at h
      exact h
    clear hk
    go_wp2_with fail
    refine Calls.mono (C1.out _ _ (Hf.out.below (by go_grown)) (HG.out.below (by go_grown))) ?_
    rintro e w2 ⟨v2, rfl, hI2, hb2⟩
    have hB2 := belowTo (a := w1) (by go_grown) hb2
    replace Hf := Lib.hid (Hf.out.below hB2)
    replace HG := Lib.hid (HG.out.below hB2)
    replace HB := Lib.hid (belowTo HB.out hB2)
    clear hb2 hB2
    have Ho1 := Lib.hid (VecsR.reads hI2 (by simp))
    clear hI2
    go_wp2_with fail
    refine Calls.mono (C2.out _ _ (Hf.out.below (by go_grown)) (HG.out.below (by go_grown))) ?_
    rintro e w3 ⟨v3, rfl, hI3, hb3⟩
    have hB3 := belowTo (a := w2) (by go_grown) hb3
    replace Hf := Lib.hid (Hf.out.below hB3)
    replace Ho1 := Lib.hid (Ho1.out.below hB3)
    replace HG := Lib.hid (HG.out.below hB3)
    replace HB := Lib.hid (belowTo HB.out hB3)
    clear hb3 hB3
    have Ho2 := Lib.hid (Vecs.reads hI3 (by simp))
    clear hI3
    go_wp2_with fail
    refine Calls.mono (sameVecs_eq _ _ _ _ (Ho1.out.below (by go_grown)) (Ho2.out.below (by go_grown))) ?_
    rintro e w4 ⟨rfl, hb4⟩
    have hB4 := belowTo (a := w3) (by go_grown) hb4
    replace Hf := Lib.hid (Hf.out.below hB4)
    replace Ho1 := Lib.hid (Ho1.out.below hB4)
    replace Ho2 := Lib.hid (Ho2.out.below hB4)
    replace HG := Lib.hid (HG.out.below hB4)
    replace HB := Lib.hid (belowTo HB.out hB4)
    clear hb4 hB4
    go_wp2_with fail
    refine Calls.mono (sameVecs_eq _ _ _ _ (Ho1.out.below (by go_grown)) (Ho2.out.below (by go_grown))) ?_
    rintro e w5 ⟨rfl, hb5⟩
    have hB5 := belowTo (a := w4) (by go_grown) hb5
    replace Hf := Lib.hid (Hf.out.below hB5)
    replace Ho1 := Lib.hid (Ho1.out.below hB5)
    replace Ho2 := Lib.hid (Ho2.out.below hB5)
    replace HG := Lib.hid (HG.out.below hB5)
    replace HB := Lib.hid (belowTo HB.out hB5)
    clear hb5 hB5
    go_wp2
    go_returns
    exact ⟨rfl, HB.out⟩
  · have C1 : Hid (∀ (w' : World) (v0 : Value), ReadsVecs w' v0 (l) → EtOk w' → Calls Tryd.prog 15 #[v0, .int .i64 (n)] w' (GivesVecsR w' (tidyP (l.map (timesF n))) (true))) := fun w' v0 h0 hg' => by
      have h := polygonTimes_any v0 l (n) w' h0 hg'
      unfold TimesL at h; rw [hk] at h
      exact h
    have C2 : Hid (∀ (w' : World) (v0 : Value), ReadsVecs w' v0 (l) → EtOk w' → Calls Tryd.prog 16 #[v0, .int .i64 (n)] w' (GivesVecsOk w' (tidyP (l.map (timesF n))) (true))) := fun w' v0 h0 hg' => by
      have h := specPolygonTimes_any v0 l (n) w' h0
      unfold TimesL at h; rw [hk] at h
      exact h
    rw [Bool.and_eq_true] at hk
    obtain ⟨q0, q1⟩ := hk
    have q2 := q0
    unfold TimesB at q2
    rw [Bool.and_eq_true, Bool.and_eq_true] at q2
    obtain ⟨hk, n1, n2⟩ := q2
    replace n1 := of_decide_eq_true n1
    replace n2 := of_decide_eq_true n2
    have pt : polyB (tidyP (l.map (timesF n))) = true := by rw [tidyP_poly]; exact q1
    have q3 := area_times (l := l) (by omega) n
    have pn := (poly_nums hk).1
    have C3 : Hid (∀ (w' : World) (v0 : Value), ReadsVecs w' v0 (tidyP (l.map (timesF n))) → EtOk w' → Calls Tryd.prog 17 #[v0] w' (fun e w'' => e = .returned (.tuple #[.int .i64 (n * n * areaZ l), .bool (true)]) ∧ Below w'.heap.size w' w'')) := fun w' v0 h0 hg' => by
      have h := polygonArea_any v0 (tidyP (l.map (timesF n))) w' h0 hg'
      rw [pt, show gate true (areaZ (tidyP (l.map (timesF n)))) = areaZ (tidyP (l.map (timesF n))) from rfl, q3] at h
      exact h
    have C4 : Hid (∀ (w' : World) (v0 : Value), ReadsVecs w' v0 (l) → EtOk w' → Calls Tryd.prog 17 #[v0] w' (fun e w'' => e = .returned (.tuple #[.int .i64 (areaZ l), .bool (true)]) ∧ Below w'.heap.size w' w'')) := fun w' v0 h0 hg' => by
      have h := polygonArea_any v0 (l) w' h0 hg'
      rw [hk] at h
      exact h
    have HL : Hid ((tidyP (l.map (timesF n))).length ≤ 1000) := by show _ ≤ _; rw [tidyP_len]; simp; omega
    have m1 := mul_le (a := n) (b := n) (A := 20) (B := 20) ⟨by omega, by omega⟩ ⟨by omega, by omega⟩
    have m2 := mul_le (a := n * n) (b := areaZ l) (A := 400) (B := 2000000000) ⟨by omega, by omega⟩ pn
    by_cases n2 : n = 2
    · subst n2
      have q4 := pd_self hk q1
      have q5 : SumB l l = true := by unfold SumB; rw [hk, q4, pt]; rfl
      have q6 : SumL l l = tidyP (l.map (timesF 2)) := by unfold SumL; rw [q5, q4]; rfl
      have C5 : Hid (∀ (w' : World) (v0 : Value) (v1 : Value), ReadsVecs w' v0 (l) → ReadsVecs w' v1 (l) → EtOk w' → Calls Tryd.prog 10 #[v0, v1] w' (GivesVecsR w' (tidyP (l.map (timesF 2))) (true))) := fun w' v0 v1 h0 h1 hg' => by
        have h := polygonSum_any v0 v1 l l w' h0 h1 hg'
        rw [q5, q6] at h
        exact h
      generalize tidyP (l.map (timesF 2)) = m at *
      generalize areaZ l = A at *
      clear q0 q1 q3 q4 q5 q6 pt hk
      have qa : IntKind.i64.wrap (2 * 2 * A) = 2 * 2 * A := by rw [IntKind.wrap_i64]; omega
      have qb : IntKind.i64.wrap (4 * A) = 4 * A := by rw [IntKind.wrap_i64]; omega
      clear m1 m2 pn n1
      go_wp2_with fail
      refine Calls.mono (C1.out _ _ (Hf.out.below (by go_grown)) (HG.out.below (by go_grown))) ?_
      rintro e w2 ⟨v2, rfl, hI2, hb2⟩
      have hB2 := belowTo (a := w1) (by go_grown) hb2
      replace Hf := Lib.hid (Hf.out.below hB2)
      replace HG := Lib.hid (HG.out.below hB2)
      replace HB := Lib.hid (belowTo HB.out hB2)
      clear hb2 hB2
      have Ho := Lib.hid (VecsR.reads hI2 (by have := HL.out; omega))
      clear hI2
      go_wp2_with fail
      refine Calls.mono (C2.out _ _ (Hf.out.below (by go_grown)) (HG.out.below (by go_grown))) ?_
      rintro e w3 ⟨v3, rfl, hI3, hb3⟩
      have hB3 := belowTo (a := w2) (by go_grown) hb3
      replace Hf := Lib.hid (Hf.out.below hB3)
      replace Ho := Lib.hid (Ho.out.below hB3)
      replace HG := Lib.hid (HG.out.below hB3)
      replace HB := Lib.hid (belowTo HB.out hB3)
      clear hb3 hB3
      have Ho2 := Lib.hid (Vecs.reads hI3 (by have := HL.out; omega))
      clear hI3
      go_wp2_with fail
      refine Calls.mono (sameVecs_eq _ _ _ _ (Ho.out.below (by go_grown)) (Ho2.out.below (by go_grown))) ?_
      rintro e w4 ⟨rfl, hb4⟩
      have hB4 := belowTo (a := w3) (by go_grown) hb4
      replace Hf := Lib.hid (Hf.out.below hB4)
      replace Ho := Lib.hid (Ho.out.below hB4)
      replace Ho2 := Lib.hid (Ho2.out.below hB4)
      replace HG := Lib.hid (HG.out.below hB4)
      replace HB := Lib.hid (belowTo HB.out hB4)
      clear hb4 hB4
      clear Ho2
      go_wp2_with fail
      refine Calls.mono (C3.out _ _ (Ho.out.below (by go_grown)) (HG.out.below (by go_grown))) ?_
      rintro e w5 ⟨rfl, hb5⟩
      have hB5 := belowTo (a := w4) (by go_grown) hb5
      replace Hf := Lib.hid (Hf.out.below hB5)
      replace Ho := Lib.hid (Ho.out.below hB5)
      replace HG := Lib.hid (HG.out.below hB5)
      replace HB := Lib.hid (belowTo HB.out hB5)
      clear hb5 hB5
      go_wp2_with fail
      refine Calls.mono (C4.out _ _ (Hf.out.below (by go_grown)) (HG.out.below (by go_grown))) ?_
      rintro e w6 ⟨rfl, hb6⟩
      have hB6 := belowTo (a := w5) (by go_grown) hb6
      replace Hf := Lib.hid (Hf.out.below hB6)
      replace Ho := Lib.hid (Ho.out.below hB6)
      replace HG := Lib.hid (HG.out.below hB6)
      replace HB := Lib.hid (belowTo HB.out hB6)
      clear hb6 hB6
      go_wp2_with fail
      refine Calls.mono (C5.out _ _ _ (Hf.out.below (by go_grown)) (Hf.out.below (by go_grown)) (HG.out.below (by go_grown))) ?_
      rintro e w7 ⟨v7, rfl, hI7, hb7⟩
      have hB7 := belowTo (a := w6) (by go_grown) hb7
      replace Hf := Lib.hid (Hf.out.below hB7)
      replace Ho := Lib.hid (Ho.out.below hB7)
      replace HG := Lib.hid (HG.out.below hB7)
      replace HB := Lib.hid (belowTo HB.out hB7)
      clear hb7 hB7
      have Hx := Lib.hid (VecsR.reads hI7 (by have := HL.out; omega))
      clear hI7
      go_wp2_with fail
      refine Calls.mono (sameVecs_eq _ _ _ _ (Hx.out.below (by go_grown)) (Ho.out.below (by go_grown))) ?_
      rintro e w8 ⟨rfl, hb8⟩
      have hB8 := belowTo (a := w7) (by go_grown) hb8
      replace Hf := Lib.hid (Hf.out.below hB8)
      replace Ho := Lib.hid (Ho.out.below hB8)
      replace Hx := Lib.hid (Hx.out.below hB8)
      replace HG := Lib.hid (HG.out.below hB8)
      replace HB := Lib.hid (belowTo HB.out hB8)
      clear hb8 hB8
      go_wp2
      go_returns
      exact ⟨rfl, HB.out⟩
    · have C5 : Hid (∀ (w' : World) (v0 : Value) (v1 : Value), ReadsVecs w' v0 (l) → ReadsVecs w' v1 (l) → EtOk w' → Calls Tryd.prog 10 #[v0, v1] w' (GivesVecsR w' (SumL l l) (SumB l l))) := fun w' v0 v1 h0 h1 hg' => by
        have h := polygonSum_any v0 v1 l l w' h0 h1 hg'
        exact h
      have HS := Lib.hid (SumL_len l l)
      generalize tidyP (l.map (timesF n)) = m at *
      generalize areaZ l = A at *
      generalize SumL l l = S at *
      generalize SumB l l = sb at *
      clear q0 q1 q3 pt hk
      have qa : IntKind.i64.wrap (n * n) = n * n := by rw [IntKind.wrap_i64]; omega
      have qb : IntKind.i64.wrap (n * n * A) = n * n * A := by rw [IntKind.wrap_i64]; omega
      clear m1 m2 pn n1
      go_wp2_with fail
      refine Calls.mono (C1.out _ _ (Hf.out.below (by go_grown)) (HG.out.below (by go_grown))) ?_
      rintro e w2 ⟨v2, rfl, hI2, hb2⟩
      have hB2 := belowTo (a := w1) (by go_grown) hb2
      replace Hf := Lib.hid (Hf.out.below hB2)
      replace HG := Lib.hid (HG.out.below hB2)
      replace HB := Lib.hid (belowTo HB.out hB2)
      clear hb2 hB2
      have Ho := Lib.hid (VecsR.reads hI2 (by have := HL.out; omega))
      clear hI2
      go_wp2_with fail
      refine Calls.mono (C2.out _ _ (Hf.out.below (by go_grown)) (HG.out.below (by go_grown))) ?_
      rintro e w3 ⟨v3, rfl, hI3, hb3⟩
      have hB3 := belowTo (a := w2) (by go_grown) hb3
      replace Hf := Lib.hid (Hf.out.below hB3)
      replace Ho := Lib.hid (Ho.out.below hB3)
      replace HG := Lib.hid (HG.out.below hB3)
      replace HB := Lib.hid (belowTo HB.out hB3)
      clear hb3 hB3
      have Ho2 := Lib.hid (Vecs.reads hI3 (by have := HL.out; omega))
      clear hI3
      go_wp2_with fail
      refine Calls.mono (sameVecs_eq _ _ _ _ (Ho.out.below (by go_grown)) (Ho2.out.below (by go_grown))) ?_
      rintro e w4 ⟨rfl, hb4⟩
      have hB4 := belowTo (a := w3) (by go_grown) hb4
      replace Hf := Lib.hid (Hf.out.below hB4)
      replace Ho := Lib.hid (Ho.out.below hB4)
      replace Ho2 := Lib.hid (Ho2.out.below hB4)
      replace HG := Lib.hid (HG.out.below hB4)
      replace HB := Lib.hid (belowTo HB.out hB4)
      clear hb4 hB4
      clear Ho2
      go_wp2_with fail
      refine Calls.mono (C3.out _ _ (Ho.out.below (by go_grown)) (HG.out.below (by go_grown))) ?_
      rintro e w5 ⟨rfl, hb5⟩
      have hB5 := belowTo (a := w4) (by go_grown) hb5
      replace Hf := Lib.hid (Hf.out.below hB5)
      replace Ho := Lib.hid (Ho.out.below hB5)
      replace HG := Lib.hid (HG.out.below hB5)
      replace HB := Lib.hid (belowTo HB.out hB5)
      clear hb5 hB5
      go_wp2_with fail
      refine Calls.mono (C4.out _ _ (Hf.out.below (by go_grown)) (HG.out.below (by go_grown))) ?_
      rintro e w6 ⟨rfl, hb6⟩
      have hB6 := belowTo (a := w5) (by go_grown) hb6
      replace Hf := Lib.hid (Hf.out.below hB6)
      replace Ho := Lib.hid (Ho.out.below hB6)
      replace HG := Lib.hid (HG.out.below hB6)
      replace HB := Lib.hid (belowTo HB.out hB6)
      clear hb6 hB6
      go_wp2_with fail
      refine Calls.mono (C5.out _ _ _ (Hf.out.below (by go_grown)) (Hf.out.below (by go_grown)) (HG.out.below (by go_grown))) ?_
      rintro e w7 ⟨v7, rfl, hI7, hb7⟩
      have hB7 := belowTo (a := w6) (by go_grown) hb7
      replace Hf := Lib.hid (Hf.out.below hB7)
      replace Ho := Lib.hid (Ho.out.below hB7)
      replace HG := Lib.hid (HG.out.below hB7)
      replace HB := Lib.hid (belowTo HB.out hB7)
      clear hb7 hB7
      have Hx := Lib.hid (VecsR.reads hI7 (HS.out))
      clear hI7
      go_wp2
      go_returns
      exact ⟨rfl, HB.out⟩
end Go.Proofs.YtgaeibibeekclaaDoor
