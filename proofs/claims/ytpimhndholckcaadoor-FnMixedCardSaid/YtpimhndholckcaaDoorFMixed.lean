/- FnMixed: the walk. -/
import Derived.Test.YtpimhndholckcaaDoorK9
import Derived.Test.YtpimhndholckcaaDoorK6
import Derived.Test.YtpimhndholckcaaDoorK0
import Derived.Test.YtpimhndholckcaaDoorK8
import Derived.Test.YtpimhndholckcaaDoorK1
namespace Go.Proofs.YtpimhndholckcaaDoor
open Go.RowKit

set_option maxRecDepth 100000 in
set_option maxHeartbeats 16000000 in
theorem fnMixed_any (a : Option Addr) (len cap : Nat) (w : World) (h : Bytes w a len cap) (hg : EtOk w) :
    Calls Tryd.prog 6 #[.slice a len cap] w fun e w' => e = .returned (.bool true) ∧ Below w.heap.size w w' := by
  by_cases hlen : len ≤ 1048576
  case neg =>
    have j1 : (1048576 : Int) < (len : Int) := by omega
    clear h hg
    go_enter Tryd.func6, Tryd.ntmps6
    go_wp2
    go_returns
    exact ⟨rfl, by go_grown⟩
  case pos =>
  have j1 : (len : Int) ≤ 1048576 := by omega
  have HO := Lib.hid (drawPolygonMixed_any w a len cap h)
  clear h
  go_enter Tryd.func6, Tryd.ntmps6
  go_wp2_with fail
  refine Calls.mono HO.out ?_
  rintro e w1 ⟨v, u, l, r, rfl, hV, hU, h2, h20, r2, r20, hb1⟩
  have HG := Lib.hid (hg.below hb1)
  have Hf := Lib.hid hV
  have Hg := Lib.hid hU
  have HB : Hid (Below w.heap.size w w1) := hb1
  clear hb1 HO hg hV hU
  cases hk : SumB l r
  · have C1 : Hid (∀ (w' : World) (v0 : Value) (v1 : Value), ReadsVecs w' v0 (l) → ReadsVecs w' v1 (r) → EtOk w' → Calls Tryd.prog 20 #[v0, v1] w' (fun e w'' => e = .returned (.tuple #[.int .i64 (0), .bool (false)]) ∧ Below w'.heap.size w' w'')) := fun w' v0 v1 h0 h1 hg' => by
      have h := polygonMixed_any v0 v1 l r w' h0 h1 hg'
      rw [hk] at h
      exact h
    have C2 : Hid (∀ (w' : World) (v0 : Value) (v1 : Value), ReadsVecs w' v0 (l) → ReadsVecs w' v1 (r) → EtOk w' → Calls Tryd.prog 21 #[v0, v1] w' (fun e w'' => e = .returned (.tuple #[.int .i64 (0), .bool (false)]) ∧ Below w'.heap.size w' w'')) := fun w' v0 v1 h0 h1 hg' => by
      have h := specPolygonMixed_any v0 v1 l r w' h0 h1
      rw [hk] at h
      exact h
    clear hk
    go_wp2_with fail
    refine Calls.mono (C1.out _ _ _ (Hf.out.below (by go_grown)) (Hg.out.below (by go_grown)) (HG.out.below (by go_grown))) ?_
    rintro e w2 ⟨rfl, hb2⟩
    have hB2 := belowTo (a := w1) (by go_grown) hb2
    replace Hf := Lib.hid (Hf.out.below hB2)
    replace Hg := Lib.hid (Hg.out.below hB2)
    replace HG := Lib.hid (HG.out.below hB2)
    replace HB := Lib.hid (belowTo HB.out hB2)
    clear hb2 hB2
    go_wp2_with fail
    refine Calls.mono (C2.out _ _ _ (Hf.out.below (by go_grown)) (Hg.out.below (by go_grown)) (HG.out.below (by go_grown))) ?_
    rintro e w3 ⟨rfl, hb3⟩
    have hB3 := belowTo (a := w2) (by go_grown) hb3
    replace Hf := Lib.hid (Hf.out.below hB3)
    replace Hg := Lib.hid (Hg.out.below hB3)
    replace HG := Lib.hid (HG.out.below hB3)
    replace HB := Lib.hid (belowTo HB.out hB3)
    clear hb3 hB3
    go_wp2
    go_returns
    exact ⟨rfl, HB.out⟩
  · have C1 : Hid (∀ (w' : World) (v0 : Value) (v1 : Value), ReadsVecs w' v0 (l) → ReadsVecs w' v1 (r) → EtOk w' → Calls Tryd.prog 20 #[v0, v1] w' (fun e w'' => e = .returned (.tuple #[.int .i64 (mixZ l r), .bool (true)]) ∧ Below w'.heap.size w' w'')) := fun w' v0 v1 h0 h1 hg' => by
      have h := polygonMixed_any v0 v1 l r w' h0 h1 hg'
      rw [hk] at h
      exact h
    have C2 : Hid (∀ (w' : World) (v0 : Value) (v1 : Value), ReadsVecs w' v0 (l) → ReadsVecs w' v1 (r) → EtOk w' → Calls Tryd.prog 21 #[v0, v1] w' (fun e w'' => e = .returned (.tuple #[.int .i64 (mixZ l r), .bool (true)]) ∧ Below w'.heap.size w' w'')) := fun w' v0 v1 h0 h1 hg' => by
      have h := specPolygonMixed_any v0 v1 l r w' h0 h1
      rw [hk] at h
      exact h
    obtain ⟨hp, hq, -⟩ := sum_parts hk
    have q1 : SumB r l = true := by rw [pd_sumB l r]; exact hk
    have q2 := mix_comm l r
    have q3 := pk_mixed hk
    have b1 := pl_mix hk
    have b2 := pl_area hp
    have b3 := pl_area hq
    have C3 : Hid (∀ (w' : World) (v0 : Value) (v1 : Value), ReadsVecs w' v0 (r) → ReadsVecs w' v1 (l) → EtOk w' → Calls Tryd.prog 20 #[v0, v1] w' (fun e w'' => e = .returned (.tuple #[.int .i64 (mixZ l r), .bool (true)]) ∧ Below w'.heap.size w' w'')) := fun w' v0 v1 h0 h1 hg' => by
      have h := polygonMixed_any v0 v1 r l w' h0 h1 hg'
      rw [q1, show gate true (mixZ r l) = mixZ r l from rfl, q2] at h
      exact h
    have C4 : Hid (∀ (w' : World) (v0 : Value), ReadsVecs w' v0 (l) → EtOk w' → Calls Tryd.prog 8 #[v0] w' (fun e w'' => e = .returned (.tuple #[.int .i64 (areaZ l), .bool (true)]) ∧ Below w'.heap.size w' w'')) := fun w' v0 h0 hg' => by
      have h := polygonArea_any v0 (l) w' h0 hg'
      rw [hp] at h
      exact h
    have C5 : Hid (∀ (w' : World) (v0 : Value), ReadsVecs w' v0 (r) → EtOk w' → Calls Tryd.prog 8 #[v0] w' (fun e w'' => e = .returned (.tuple #[.int .i64 (areaZ r), .bool (true)]) ∧ Below w'.heap.size w' w'')) := fun w' v0 h0 hg' => by
      have h := polygonArea_any v0 (r) w' h0 hg'
      rw [hq] at h
      exact h
    have m1 := pl_sq 1800000 b1 b1
    have m2 := pl_sq 600000 b2 b3
    cases hk2 : SumB l l
    · have C6 : Hid (∀ (w' : World) (v0 : Value) (v1 : Value), ReadsVecs w' v0 (l) → ReadsVecs w' v1 (l) → EtOk w' → Calls Tryd.prog 20 #[v0, v1] w' (fun e w'' => e = .returned (.tuple #[.int .i64 (0), .bool (false)]) ∧ Below w'.heap.size w' w'')) := fun w' v0 v1 h0 h1 hg' => by
        have h := polygonMixed_any v0 v1 l l w' h0 h1 hg'
        rw [hk2] at h
        exact h
      generalize mixZ l r = M at *
      generalize areaZ l = A at *
      generalize areaZ r = B at *
      clear hk hk2 hp hq q1 q2 b1 b2 b3
      have qa : IntKind.i64.wrap (M * M) = M * M := by rw [IntKind.wrap_i64]; omega
      have qb : IntKind.i64.wrap (A * B) = A * B := by rw [IntKind.wrap_i64]; omega
      clear m1 m2
      go_wp2_with fail
      refine Calls.mono (C1.out _ _ _ (Hf.out.below (by go_grown)) (Hg.out.below (by go_grown)) (HG.out.below (by go_grown))) ?_
      rintro e w2 ⟨rfl, hb2⟩
      have hB2 := belowTo (a := w1) (by go_grown) hb2
      replace Hf := Lib.hid (Hf.out.below hB2)
      replace Hg := Lib.hid (Hg.out.below hB2)
      replace HG := Lib.hid (HG.out.below hB2)
      replace HB := Lib.hid (belowTo HB.out hB2)
      clear hb2 hB2
      go_wp2_with fail
      refine Calls.mono (C2.out _ _ _ (Hf.out.below (by go_grown)) (Hg.out.below (by go_grown)) (HG.out.below (by go_grown))) ?_
      rintro e w3 ⟨rfl, hb3⟩
      have hB3 := belowTo (a := w2) (by go_grown) hb3
      replace Hf := Lib.hid (Hf.out.below hB3)
      replace Hg := Lib.hid (Hg.out.below hB3)
      replace HG := Lib.hid (HG.out.below hB3)
      replace HB := Lib.hid (belowTo HB.out hB3)
      clear hb3 hB3
      go_wp2_with fail
      refine Calls.mono (C3.out _ _ _ (Hg.out.below (by go_grown)) (Hf.out.below (by go_grown)) (HG.out.below (by go_grown))) ?_
      rintro e w4 ⟨rfl, hb4⟩
      have hB4 := belowTo (a := w3) (by go_grown) hb4
      replace Hf := Lib.hid (Hf.out.below hB4)
      replace Hg := Lib.hid (Hg.out.below hB4)
      replace HG := Lib.hid (HG.out.below hB4)
      replace HB := Lib.hid (belowTo HB.out hB4)
      clear hb4 hB4
      go_wp2_with fail
      refine Calls.mono (C4.out _ _ (Hf.out.below (by go_grown)) (HG.out.below (by go_grown))) ?_
      rintro e w5 ⟨rfl, hb5⟩
      have hB5 := belowTo (a := w4) (by go_grown) hb5
      replace Hf := Lib.hid (Hf.out.below hB5)
      replace Hg := Lib.hid (Hg.out.below hB5)
      replace HG := Lib.hid (HG.out.below hB5)
      replace HB := Lib.hid (belowTo HB.out hB5)
      clear hb5 hB5
      go_wp2_with fail
      refine Calls.mono (C5.out _ _ (Hg.out.below (by go_grown)) (HG.out.below (by go_grown))) ?_
      rintro e w6 ⟨rfl, hb6⟩
      have hB6 := belowTo (a := w5) (by go_grown) hb6
      replace Hf := Lib.hid (Hf.out.below hB6)
      replace Hg := Lib.hid (Hg.out.below hB6)
      replace HG := Lib.hid (HG.out.below hB6)
      replace HB := Lib.hid (belowTo HB.out hB6)
      clear hb6 hB6
      go_wp2_with fail
      refine Calls.mono (C6.out _ _ _ (Hf.out.below (by go_grown)) (Hf.out.below (by go_grown)) (HG.out.below (by go_grown))) ?_
      rintro e w7 ⟨rfl, hb7⟩
      have hB7 := belowTo (a := w6) (by go_grown) hb7
      replace Hf := Lib.hid (Hf.out.below hB7)
      replace Hg := Lib.hid (Hg.out.below hB7)
      replace HG := Lib.hid (HG.out.below hB7)
      replace HB := Lib.hid (belowTo HB.out hB7)
      clear hb7 hB7
      go_wp2
      go_returns
      exact ⟨rfl, HB.out⟩
    · have q4 := mix_self hk2
      have C6 : Hid (∀ (w' : World) (v0 : Value) (v1 : Value), ReadsVecs w' v0 (l) → ReadsVecs w' v1 (l) → EtOk w' → Calls Tryd.prog 20 #[v0, v1] w' (fun e w'' => e = .returned (.tuple #[.int .i64 (areaZ l), .bool (true)]) ∧ Below w'.heap.size w' w'')) := fun w' v0 v1 h0 h1 hg' => by
        have h := polygonMixed_any v0 v1 l l w' h0 h1 hg'
        rw [hk2, show gate true (mixZ l l) = mixZ l l from rfl, q4] at h
        exact h
      generalize mixZ l r = M at *
      generalize areaZ l = A at *
      generalize areaZ r = B at *
      clear hk hk2 hp hq q1 q2 b1 b2 b3 q4
      have qa : IntKind.i64.wrap (M * M) = M * M := by rw [IntKind.wrap_i64]; omega
      have qb : IntKind.i64.wrap (A * B) = A * B := by rw [IntKind.wrap_i64]; omega
      clear m1 m2
      go_wp2_with fail
      refine Calls.mono (C1.out _ _ _ (Hf.out.below (by go_grown)) (Hg.out.below (by go_grown)) (HG.out.below (by go_grown))) ?_
      rintro e w2 ⟨rfl, hb2⟩
      have hB2 := belowTo (a := w1) (by go_grown) hb2
      replace Hf := Lib.hid (Hf.out.below hB2)
      replace Hg := Lib.hid (Hg.out.below hB2)
      replace HG := Lib.hid (HG.out.below hB2)
      replace HB := Lib.hid (belowTo HB.out hB2)
      clear hb2 hB2
      go_wp2_with fail
      refine Calls.mono (C2.out _ _ _ (Hf.out.below (by go_grown)) (Hg.out.below (by go_grown)) (HG.out.below (by go_grown))) ?_
      rintro e w3 ⟨rfl, hb3⟩
      have hB3 := belowTo (a := w2) (by go_grown) hb3
      replace Hf := Lib.hid (Hf.out.below hB3)
      replace Hg := Lib.hid (Hg.out.below hB3)
      replace HG := Lib.hid (HG.out.below hB3)
      replace HB := Lib.hid (belowTo HB.out hB3)
      clear hb3 hB3
      go_wp2_with fail
      refine Calls.mono (C3.out _ _ _ (Hg.out.below (by go_grown)) (Hf.out.below (by go_grown)) (HG.out.below (by go_grown))) ?_
      rintro e w4 ⟨rfl, hb4⟩
      have hB4 := belowTo (a := w3) (by go_grown) hb4
      replace Hf := Lib.hid (Hf.out.below hB4)
      replace Hg := Lib.hid (Hg.out.below hB4)
      replace HG := Lib.hid (HG.out.below hB4)
      replace HB := Lib.hid (belowTo HB.out hB4)
      clear hb4 hB4
      go_wp2_with fail
      refine Calls.mono (C4.out _ _ (Hf.out.below (by go_grown)) (HG.out.below (by go_grown))) ?_
      rintro e w5 ⟨rfl, hb5⟩
      have hB5 := belowTo (a := w4) (by go_grown) hb5
      replace Hf := Lib.hid (Hf.out.below hB5)
      replace Hg := Lib.hid (Hg.out.below hB5)
      replace HG := Lib.hid (HG.out.below hB5)
      replace HB := Lib.hid (belowTo HB.out hB5)
      clear hb5 hB5
      go_wp2_with fail
      refine Calls.mono (C5.out _ _ (Hg.out.below (by go_grown)) (HG.out.below (by go_grown))) ?_
      rintro e w6 ⟨rfl, hb6⟩
      have hB6 := belowTo (a := w5) (by go_grown) hb6
      replace Hf := Lib.hid (Hf.out.below hB6)
      replace Hg := Lib.hid (Hg.out.below hB6)
      replace HG := Lib.hid (HG.out.below hB6)
      replace HB := Lib.hid (belowTo HB.out hB6)
      clear hb6 hB6
      go_wp2_with fail
      refine Calls.mono (C6.out _ _ _ (Hf.out.below (by go_grown)) (Hf.out.below (by go_grown)) (HG.out.below (by go_grown))) ?_
      rintro e w7 ⟨rfl, hb7⟩
      have hB7 := belowTo (a := w6) (by go_grown) hb7
      replace Hf := Lib.hid (Hf.out.below hB7)
      replace Hg := Lib.hid (Hg.out.below hB7)
      replace HG := Lib.hid (HG.out.below hB7)
      replace HB := Lib.hid (belowTo HB.out hB7)
      clear hb7 hB7
      go_wp2
      go_returns
      exact ⟨rfl, HB.out⟩
end Go.Proofs.YtpimhndholckcaaDoor
