/- FnInner: the walk. -/
import Derived.Test.YtflimnpajkadgaaGreatDoorK9
import Derived.Test.YtflimnpajkadgaaGreatDoorK3
import Derived.Test.YtflimnpajkadgaaGreatDoorK1
import Derived.Test.YtflimnpajkadgaaGreatDoorK2
namespace Go.Proofs.YtflimnpajkadgaaGreatDoor
open Go.RowKit

set_option maxRecDepth 100000 in
set_option maxHeartbeats 16000000 in
theorem fnInner_any (a : Option Addr) (len cap : Nat) (w : World) (h : Bytes w a len cap) (hg : EtOk w) :
    Calls Tryz.prog 3 #[.slice a len cap] w fun e w' => e = .returned (.bool true) ∧ Below w.heap.size w w' := by
  by_cases hlen : len ≤ 1048576
  case neg =>
    have j1 : (1048576 : Int) < (len : Int) := by omega
    clear h hg
    go_enter Tryz.func3, Tryz.ntmps3
    go_wp2
    go_returns
    exact ⟨rfl, by go_grown⟩
  case pos =>
  have j1 : (len : Int) ≤ 1048576 := by omega
  have HO := Lib.hid (drawPolygonInner_any w a len cap h)
  clear h
  go_enter Tryz.func3, Tryz.ntmps3
  go_wp2_with fail
  refine Calls.mono HO.out ?_
  rintro e w1 ⟨v, l, rfl, hV, h2, h20, hb1⟩
  have HG := Lib.hid (hg.below hb1)
  have Hf := Lib.hid hV
  have HB : Hid (Below w.heap.size w w1) := hb1
  clear hb1 HO hg hV
  cases hk : polyB l
  · have C1 : Hid (∀ (w' : World) (v0 : Value), ReadsVecs w' v0 (l) → EtOk w' → Calls Tryz.prog 7 #[v0] w' (fun e w'' => e = .returned (.tuple #[.int .i64 (0), .bool (false)]) ∧ Below w'.heap.size w' w'')) := fun w' v0 h0 hg' => by
      have h := polygonInner_any v0 l w' h0 hg'
      rw [hk] at h
      exact h
    have C2 : Hid (∀ (w' : World) (v0 : Value), ReadsVecs w' v0 (l) → EtOk w' → Calls Tryz.prog 8 #[v0] w' (fun e w'' => e = .returned (.tuple #[.int .i64 (0), .bool (false)]) ∧ Below w'.heap.size w' w'')) := fun w' v0 h0 hg' => by
      have h := specPolygonInner_any v0 l w' h0
      rw [hk] at h
      exact h
    clear hk
    go_wp2_with fail
    refine Calls.mono (C1.out _ _ (Hf.out.below (by go_grown)) (HG.out.below (by go_grown))) ?_
    rintro e w2 ⟨rfl, hb2⟩
    have hB2 := belowTo (a := w1) (by go_grown) hb2
    replace Hf := Lib.hid (Hf.out.below hB2)
    replace HG := Lib.hid (HG.out.below hB2)
    replace HB := Lib.hid (belowTo HB.out hB2)
    clear hb2 hB2
    go_wp2_with fail
    refine Calls.mono (C2.out _ _ (Hf.out.below (by go_grown)) (HG.out.below (by go_grown))) ?_
    rintro e w3 ⟨rfl, hb3⟩
    have hB3 := belowTo (a := w2) (by go_grown) hb3
    replace Hf := Lib.hid (Hf.out.below hB3)
    replace HG := Lib.hid (HG.out.below hB3)
    replace HB := Lib.hid (belowTo HB.out hB3)
    clear hb3 hB3
    go_wp2
    go_returns
    exact ⟨rfl, HB.out⟩
  · have C1 : Hid (∀ (w' : World) (v0 : Value), ReadsVecs w' v0 (l) → EtOk w' → Calls Tryz.prog 7 #[v0] w' (fun e w'' => e = .returned (.tuple #[.int .i64 (innerZ l), .bool (true)]) ∧ Below w'.heap.size w' w'')) := fun w' v0 h0 hg' => by
      have h := polygonInner_any v0 l w' h0 hg'
      rw [hk] at h
      exact h
    have C2 : Hid (∀ (w' : World) (v0 : Value), ReadsVecs w' v0 (l) → EtOk w' → Calls Tryz.prog 8 #[v0] w' (fun e w'' => e = .returned (.tuple #[.int .i64 (innerZ l), .bool (true)]) ∧ Below w'.heap.size w' w'')) := fun w' v0 h0 hg' => by
      have h := specPolygonInner_any v0 l w' h0
      rw [hk] at h
      exact h
    have pk := pc_pick hk
    have pn := poly_nums hk
    cases hk2 : polyB (l.map (timesF 2))
    · have t1 : TimesB l 2 = true := by unfold TimesB; rw [hk]; rfl
      have C3 : Hid (∀ (w' : World) (v0 : Value), ReadsVecs w' v0 (l) → EtOk w' → Calls Tryz.prog 9 #[v0, .int .i64 (2)] w' (GivesVecsR w' ([]) (false))) := fun w' v0 h0 hg' => by
        have h := polygonTimes_any v0 (l) (2) w' h0 hg'
        unfold TimesL at h; rw [t1, hk2] at h
        exact h
      have C4 : Hid (∀ (w' : World) (v0 : Value), ReadsVecs w' v0 ([]) → EtOk w' → Calls Tryz.prog 7 #[v0] w' (fun e w'' => e = .returned (.tuple #[.int .i64 (0), .bool (false)]) ∧ Below w'.heap.size w' w'')) := fun w' v0 h0 hg' => by
        have h := polygonInner_any v0 ([]) w' h0 hg'
        exact h
      have C5 : Hid (∀ (w' : World) (v0 : Value), ReadsVecs w' v0 (l) → EtOk w' → Calls Tryz.prog 10 #[v0] w' (fun e w'' => e = .returned (.tuple #[.int .i64 (areaZ l), .bool (true)]) ∧ Below w'.heap.size w' w'')) := fun w' v0 h0 hg' => by
        have h := polygonArea_any v0 (l) w' h0 hg'
        rw [hk] at h
        exact h
      have C6 : Hid (∀ (w' : World) (v0 : Value), ReadsVecs w' v0 (l) → EtOk w' → Calls Tryz.prog 11 #[v0] w' (fun e w'' => e = .returned (.tuple #[.int .i64 (edgeZ l l.length), .bool (true)]) ∧ Below w'.heap.size w' w'')) := fun w' v0 h0 hg' => by
        have h := polygonEdge_any v0 (l) w' h0 hg'
        rw [hk] at h
        exact h
      clear hk hk2 t1
      generalize areaZ l = A at *
      generalize edgeZ l l.length = E at *
      generalize innerZ l = N at *
      have qa : IntKind.i64.wrap (2 * A) = 2 * A := by rw [IntKind.wrap_i64]; omega
      have qb : IntKind.i64.wrap (2 * A - E) = 2 * A - E := by rw [IntKind.wrap_i64]; omega
      have qc : IntKind.i64.wrap (2 * A - E + 1) = 2 * A - E + 1 := by rw [IntKind.wrap_i64]; omega
      have qd : 0 ≤ N := pk.2.1
      clear pk pn
      go_wp2_with fail
      refine Calls.mono (C1.out _ _ (Hf.out.below (by go_grown)) (HG.out.below (by go_grown))) ?_
      rintro e w2 ⟨rfl, hb2⟩
      have hB2 := belowTo (a := w1) (by go_grown) hb2
      replace Hf := Lib.hid (Hf.out.below hB2)
      replace HG := Lib.hid (HG.out.below hB2)
      replace HB := Lib.hid (belowTo HB.out hB2)
      clear hb2 hB2
      go_wp2_with fail
      refine Calls.mono (C2.out _ _ (Hf.out.below (by go_grown)) (HG.out.below (by go_grown))) ?_
      rintro e w3 ⟨rfl, hb3⟩
      have hB3 := belowTo (a := w2) (by go_grown) hb3
      replace Hf := Lib.hid (Hf.out.below hB3)
      replace HG := Lib.hid (HG.out.below hB3)
      replace HB := Lib.hid (belowTo HB.out hB3)
      clear hb3 hB3
      go_wp2_with fail
      refine Calls.mono (C3.out _ _ (Hf.out.below (by go_grown)) (HG.out.below (by go_grown))) ?_
      rintro e w4 ⟨v4, rfl, hI4, hb4⟩
      have hB4 := belowTo (a := w3) (by go_grown) hb4
      replace Hf := Lib.hid (Hf.out.below hB4)
      replace HG := Lib.hid (HG.out.below hB4)
      replace HB := Lib.hid (belowTo HB.out hB4)
      clear hb4 hB4
      have Hm := Lib.hid (VecsR.reads hI4 (by simp))
      clear hI4
      go_wp2_with fail
      refine Calls.mono (C4.out _ _ (Hm.out.below (by go_grown)) (HG.out.below (by go_grown))) ?_
      rintro e w5 ⟨rfl, hb5⟩
      have hB5 := belowTo (a := w4) (by go_grown) hb5
      replace Hf := Lib.hid (Hf.out.below hB5)
      replace Hm := Lib.hid (Hm.out.below hB5)
      replace HG := Lib.hid (HG.out.below hB5)
      replace HB := Lib.hid (belowTo HB.out hB5)
      clear hb5 hB5
      go_wp2_with fail
      refine Calls.mono (C5.out _ _ (Hf.out.below (by go_grown)) (HG.out.below (by go_grown))) ?_
      rintro e w6 ⟨rfl, hb6⟩
      have hB6 := belowTo (a := w5) (by go_grown) hb6
      replace Hf := Lib.hid (Hf.out.below hB6)
      replace Hm := Lib.hid (Hm.out.below hB6)
      replace HG := Lib.hid (HG.out.below hB6)
      replace HB := Lib.hid (belowTo HB.out hB6)
      clear hb6 hB6
      go_wp2_with fail
      refine Calls.mono (C6.out _ _ (Hf.out.below (by go_grown)) (HG.out.below (by go_grown))) ?_
      rintro e w7 ⟨rfl, hb7⟩
      have hB7 := belowTo (a := w6) (by go_grown) hb7
      replace Hf := Lib.hid (Hf.out.below hB7)
      replace Hm := Lib.hid (Hm.out.below hB7)
      replace HG := Lib.hid (HG.out.below hB7)
      replace HB := Lib.hid (belowTo HB.out hB7)
      clear hb7 hB7
      go_wp2
      go_returns
      exact ⟨rfl, HB.out⟩
    · have t1 : TimesB l 2 = true := by unfold TimesB; rw [hk]; rfl
      have C3 : Hid (∀ (w' : World) (v0 : Value), ReadsVecs w' v0 (l) → EtOk w' → Calls Tryz.prog 9 #[v0, .int .i64 (2)] w' (GivesVecsR w' (tidyP (l.map (timesF 2))) (true))) := fun w' v0 h0 hg' => by
        have h := polygonTimes_any v0 (l) (2) w' h0 hg'
        unfold TimesL at h; rw [t1, hk2] at h
        exact h
      have ht := pc_twice hk hk2
      have pt : polyB (tidyP (l.map (timesF 2))) = true := by rw [tidyP_poly]; exact hk2
      have C4 : Hid (∀ (w' : World) (v0 : Value), ReadsVecs w' v0 (tidyP (l.map (timesF 2))) → EtOk w' → Calls Tryz.prog 7 #[v0] w' (fun e w'' => e = .returned (.tuple #[.int .i64 (2 * areaZ l - edgeZ l l.length + 1), .bool (true)]) ∧ Below w'.heap.size w' w'')) := fun w' v0 h0 hg' => by
        have h := polygonInner_any v0 (tidyP (l.map (timesF 2))) w' h0 hg'
        rw [pt, show gate true (innerZ (tidyP (l.map (timesF 2)))) = innerZ (tidyP (l.map (timesF 2))) from rfl, ht] at h
        exact h
      have C5 : Hid (∀ (w' : World) (v0 : Value), ReadsVecs w' v0 (l) → EtOk w' → Calls Tryz.prog 10 #[v0] w' (fun e w'' => e = .returned (.tuple #[.int .i64 (areaZ l), .bool (true)]) ∧ Below w'.heap.size w' w'')) := fun w' v0 h0 hg' => by
        have h := polygonArea_any v0 (l) w' h0 hg'
        rw [hk] at h
        exact h
      have C6 : Hid (∀ (w' : World) (v0 : Value), ReadsVecs w' v0 (l) → EtOk w' → Calls Tryz.prog 11 #[v0] w' (fun e w'' => e = .returned (.tuple #[.int .i64 (edgeZ l l.length), .bool (true)]) ∧ Below w'.heap.size w' w'')) := fun w' v0 h0 hg' => by
        have h := polygonEdge_any v0 (l) w' h0 hg'
        rw [hk] at h
        exact h
      have HL : Hid ((tidyP (l.map (timesF 2))).length ≤ 1000) := by show _ ≤ _; rw [tidyP_len]; simp; omega
      generalize tidyP (l.map (timesF 2)) = m at *
      clear hk hk2 t1 ht pt
      generalize areaZ l = A at *
      generalize edgeZ l l.length = E at *
      generalize innerZ l = N at *
      have qa : IntKind.i64.wrap (2 * A) = 2 * A := by rw [IntKind.wrap_i64]; omega
      have qb : IntKind.i64.wrap (2 * A - E) = 2 * A - E := by rw [IntKind.wrap_i64]; omega
      have qc : IntKind.i64.wrap (2 * A - E + 1) = 2 * A - E + 1 := by rw [IntKind.wrap_i64]; omega
      have qd : 0 ≤ N := pk.2.1
      clear pk pn
      go_wp2_with fail
      refine Calls.mono (C1.out _ _ (Hf.out.below (by go_grown)) (HG.out.below (by go_grown))) ?_
      rintro e w2 ⟨rfl, hb2⟩
      have hB2 := belowTo (a := w1) (by go_grown) hb2
      replace Hf := Lib.hid (Hf.out.below hB2)
      replace HG := Lib.hid (HG.out.below hB2)
      replace HB := Lib.hid (belowTo HB.out hB2)
      clear hb2 hB2
      go_wp2_with fail
      refine Calls.mono (C2.out _ _ (Hf.out.below (by go_grown)) (HG.out.below (by go_grown))) ?_
      rintro e w3 ⟨rfl, hb3⟩
      have hB3 := belowTo (a := w2) (by go_grown) hb3
      replace Hf := Lib.hid (Hf.out.below hB3)
      replace HG := Lib.hid (HG.out.below hB3)
      replace HB := Lib.hid (belowTo HB.out hB3)
      clear hb3 hB3
      go_wp2_with fail
      refine Calls.mono (C3.out _ _ (Hf.out.below (by go_grown)) (HG.out.below (by go_grown))) ?_
      rintro e w4 ⟨v4, rfl, hI4, hb4⟩
      have hB4 := belowTo (a := w3) (by go_grown) hb4
      replace Hf := Lib.hid (Hf.out.below hB4)
      replace HG := Lib.hid (HG.out.below hB4)
      replace HB := Lib.hid (belowTo HB.out hB4)
      clear hb4 hB4
      have Hm := Lib.hid (VecsR.reads hI4 (by have := HL.out; omega))
      clear hI4
      go_wp2_with fail
      refine Calls.mono (C4.out _ _ (Hm.out.below (by go_grown)) (HG.out.below (by go_grown))) ?_
      rintro e w5 ⟨rfl, hb5⟩
      have hB5 := belowTo (a := w4) (by go_grown) hb5
      replace Hf := Lib.hid (Hf.out.below hB5)
      replace Hm := Lib.hid (Hm.out.below hB5)
      replace HG := Lib.hid (HG.out.below hB5)
      replace HB := Lib.hid (belowTo HB.out hB5)
      clear hb5 hB5
      go_wp2_with fail
      refine Calls.mono (C5.out _ _ (Hf.out.below (by go_grown)) (HG.out.below (by go_grown))) ?_
      rintro e w6 ⟨rfl, hb6⟩
      have hB6 := belowTo (a := w5) (by go_grown) hb6
      replace Hf := Lib.hid (Hf.out.below hB6)
      replace Hm := Lib.hid (Hm.out.below hB6)
      replace HG := Lib.hid (HG.out.below hB6)
      replace HB := Lib.hid (belowTo HB.out hB6)
      clear hb6 hB6
      go_wp2_with fail
      refine Calls.mono (C6.out _ _ (Hf.out.below (by go_grown)) (HG.out.below (by go_grown))) ?_
      rintro e w7 ⟨rfl, hb7⟩
      have hB7 := belowTo (a := w6) (by go_grown) hb7
      replace Hf := Lib.hid (Hf.out.below hB7)
      replace Hm := Lib.hid (Hm.out.below hB7)
      replace HG := Lib.hid (HG.out.below hB7)
      replace HB := Lib.hid (belowTo HB.out hB7)
      clear hb7 hB7
      go_wp2
      go_returns
      exact ⟨rfl, HB.out⟩
end Go.Proofs.YtflimnpajkadgaaGreatDoor
