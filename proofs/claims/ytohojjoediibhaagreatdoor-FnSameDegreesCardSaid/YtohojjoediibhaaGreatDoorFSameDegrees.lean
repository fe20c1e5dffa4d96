/- FnSameDegrees: the walk. -/
import Derived.Test.YtohojjoediibhaaGreatDoorUd
import Derived.Test.YtohojjoediibhaaGreatDoorNc
import Derived.Test.YtohojjoediibhaaGreatDoorSm
import Derived.Test.YtohojjoediibhaaGreatDoorBe
import Derived.Test.YtohojjoediibhaaGreatDoorBf
import Derived.Test.YtohojjoediibhaaGreatDoorQ6
namespace Go.Proofs.YtohojjoediibhaaGreatDoor
open Go.RowKit

set_option maxRecDepth 100000 in
set_option maxHeartbeats 16000000 in
theorem fnSameDegrees_any (a : Option Addr) (len cap : Nat) (w : World) (h : Bytes w a len cap) (hg : EtOk w) :
    Calls Tryz.prog 6 #[.slice a len cap] w fun e w' => e = .returned (.bool true) ∧ Below w.heap.size w w' := by
  by_cases hlen : len ≤ 1048576
  case neg =>
    have j1 : (1048576 : Int) < (len : Int) := by omega
    clear h hg
    go_enter Tryz.func6, Tryz.ntmps6
    go_wp2
    go_returns
    exact ⟨rfl, by go_grown⟩
  case pos =>
  have j1 : (len : Int) ≤ 1048576 := by omega
  have HO := Lib.hid (drawDivisorProduct_any w a len cap h)
  clear h
  go_enter Tryz.func6, Tryz.ntmps6
  go_wp2_with fail
  refine Calls.mono HO.out ?_
  rintro e w1 ⟨v, u, t, l, a1, b1, rfl, hV, hI, hJ, h2, h20, ha, hb, hb1⟩
  have HG := Lib.hid (hg.below hb1)
  have Hf := Lib.hid hV
  have Ha := Lib.hid hI
  have Hb := Lib.hid hJ
  have HB : Hid (Below w.heap.size w w1) := hb1
  clear hb1 HO hg hV hI hJ
  cases hk : (divB l a1 && divB l b1)
  · have C1 : Hid (∀ (w' : World) (v0 : Value) (v1 : Value) (v2 : Value), ReadsVecs w' v0 (l) → ReadsInts w' v1 (a1) → ReadsInts w' v2 (b1) → EtOk w' → Calls Tryz.prog 19 #[v0, v1, v2] w' (fun e w'' => e = .returned (.tuple #[.int .i64 (0), .bool (false)]) ∧ Below w'.heap.size w' w'')) := fun w' v0 v1 v2 h0 h1 h2 hg' => by
      have h := divisorProduct_any v0 (l) v1 (a1) v2 (b1) w' h0 h1 h2 hg'
      rw [hk] at h
      exact h
    have C2 : Hid (∀ (w' : World) (v0 : Value) (v1 : Value) (v2 : Value), ReadsVecs w' v0 (l) → ReadsInts w' v1 (a1) → ReadsInts w' v2 (b1) → EtOk w' → Calls Tryz.prog 21 #[v0, v1, v2] w' (fun e w'' => e = .returned (.tuple #[.int .i64 (0), .bool (false)]) ∧ Below w'.heap.size w' w'')) := fun w' v0 v1 v2 h0 h1 h2 hg' => by
      have h := specDivisorProduct_any v0 (l) v1 (a1) v2 (b1) w' h0 h1 h2
      rw [hk] at h
      exact h
    clear hk
    go_wp2_with fail
    refine Calls.mono (C1.out _ _ _ _ (Hf.out.below (by go_grown)) (Ha.out.below (by go_grown)) (Hb.out.below (by go_grown)) (HG.out.below (by go_grown))) ?_
    rintro e w2 ⟨rfl, hb2⟩
    have hB2 := belowTo (a := w1) (by go_grown) hb2
    replace Hf := Lib.hid (Hf.out.below hB2)
    replace Ha := Lib.hid (Ha.out.below hB2)
    replace Hb := Lib.hid (Hb.out.below hB2)
    replace HG := Lib.hid (HG.out.below hB2)
    replace HB := Lib.hid (belowTo HB.out hB2)
    clear hb2 hB2
    go_wp2_with fail
    refine Calls.mono (C2.out _ _ _ _ (Hf.out.below (by go_grown)) (Ha.out.below (by go_grown)) (Hb.out.below (by go_grown)) (HG.out.below (by go_grown))) ?_
    rintro e w3 ⟨rfl, hb3⟩
    have hB3 := belowTo (a := w2) (by go_grown) hb3
    replace Hf := Lib.hid (Hf.out.below hB3)
    replace Ha := Lib.hid (Ha.out.below hB3)
    replace Hb := Lib.hid (Hb.out.below hB3)
    replace HG := Lib.hid (HG.out.below hB3)
    replace HB := Lib.hid (belowTo HB.out hB3)
    clear hb3 hB3
    go_wp2
    go_returns
    exact ⟨rfl, HB.out⟩
  · have C1 : Hid (∀ (w' : World) (v0 : Value) (v1 : Value) (v2 : Value), ReadsVecs w' v0 (l) → ReadsInts w' v1 (a1) → ReadsInts w' v2 (b1) → EtOk w' → Calls Tryz.prog 19 #[v0, v1, v2] w' (fun e w'' => e = .returned (.tuple #[.int .i64 (prodZ l a1 b1), .bool (true)]) ∧ Below w'.heap.size w' w'')) := fun w' v0 v1 v2 h0 h1 h2 hg' => by
      have h := divisorProduct_any v0 (l) v1 (a1) v2 (b1) w' h0 h1 h2 hg'
      rw [hk] at h
      exact h
    have C2 : Hid (∀ (w' : World) (v0 : Value) (v1 : Value) (v2 : Value), ReadsVecs w' v0 (l) → ReadsInts w' v1 (a1) → ReadsInts w' v2 (b1) → EtOk w' → Calls Tryz.prog 21 #[v0, v1, v2] w' (fun e w'' => e = .returned (.tuple #[.int .i64 (prodZ l a1 b1), .bool (true)]) ∧ Below w'.heap.size w' w'')) := fun w' v0 v1 v2 h0 h1 h2 hg' => by
      have h := specDivisorProduct_any v0 (l) v1 (a1) v2 (b1) w' h0 h1 h2
      rw [hk] at h
      exact h
    rw [Bool.and_eq_true] at hk
    obtain ⟨q1, q2⟩ := hk
    have q3 := fun h : degsZ l a1 = degsZ l b1 => eqv_mk q1 q2 h
    have C3 : Hid (∀ (w' : World) (v0 : Value) (v1 : Value), ReadsVecs w' v0 (l) → ReadsInts w' v1 (a1) → EtOk w' → Calls Tryz.prog 17 #[v0, v1] w' (GivesIntsOk w' (degsZ l a1) (true))) := fun w' v0 v1 h0 h1 hg' => by
      have h := divisorDegrees_any v0 (l) v1 (a1) w' h0 h1 hg'
      rw [q1] at h
      exact h
    have C4 : Hid (∀ (w' : World) (v0 : Value) (v1 : Value), ReadsVecs w' v0 (l) → ReadsInts w' v1 (b1) → EtOk w' → Calls Tryz.prog 17 #[v0, v1] w' (GivesIntsOk w' (degsZ l b1) (true))) := fun w' v0 v1 h0 h1 hg' => by
      have h := divisorDegrees_any v0 (l) v1 (b1) w' h0 h1 hg'
      rw [q2] at h
      exact h
    have HL1 : Hid ((degsZ l a1).length ≤ 1000) := by show _ ≤ _; rw [degs_len]; omega
    have HL2 : Hid ((degsZ l b1).length ≤ 1000) := by show _ ≤ _; rw [degs_len]; omega
    by_cases he : degsZ l a1 = degsZ l b1
    · have C5 : Hid (∀ (w' : World) (v0 : Value) (v1 : Value) (v2 : Value), ReadsVecs w' v0 (l) → ReadsInts w' v1 (a1) → ReadsInts w' v2 (b1) → EtOk w' → Calls Tryz.prog 24 #[v0, v1, v2] w' (fun e w'' => e = .returned (.bool (true)) ∧ Below w'.heap.size w' w'')) := fun w' v0 v1 v2 h0 h1 h2 hg' => by
        have h := divisorEquivalent_any v0 (l) v1 (a1) v2 (b1) w' h0 h1 h2 hg'
        rw [q3 he] at h
        exact h
      have HD : Hid (decide (degsZ l a1 = degsZ l b1) = true) := decide_eq_true he
      clear q1 q2 q3 he
      generalize degsZ l a1 = m1 at *
      generalize degsZ l b1 = m2 at *
      generalize prodZ l a1 b1 = X at *
      go_wp2_with fail
      refine Calls.mono (C1.out _ _ _ _ (Hf.out.below (by go_grown)) (Ha.out.below (by go_grown)) (Hb.out.below (by go_grown)) (HG.out.below (by go_grown))) ?_
      rintro e w2 ⟨rfl, hb2⟩
      have hB2 := belowTo (a := w1) (by go_grown) hb2
      replace Hf := Lib.hid (Hf.out.below hB2)
      replace Ha := Lib.hid (Ha.out.below hB2)
      replace Hb := Lib.hid (Hb.out.below hB2)
      replace HG := Lib.hid (HG.out.below hB2)
      replace HB := Lib.hid (belowTo HB.out hB2)
      clear hb2 hB2
      go_wp2_with fail
      refine Calls.mono (C2.out _ _ _ _ (Hf.out.below (by go_grown)) (Ha.out.below (by go_grown)) (Hb.out.below (by go_grown)) (HG.out.below (by go_grown))) ?_
      rintro e w3 ⟨rfl, hb3⟩
      have hB3 := belowTo (a := w2) (by go_grown) hb3
      replace Hf := Lib.hid (Hf.out.below hB3)
      replace Ha := Lib.hid (Ha.out.below hB3)
      replace Hb := Lib.hid (Hb.out.below hB3)
      replace HG := Lib.hid (HG.out.below hB3)
      replace HB := Lib.hid (belowTo HB.out hB3)
      clear hb3 hB3
      go_wp2_with fail
      refine Calls.mono (C3.out _ _ _ (Hf.out.below (by go_grown)) (Ha.out.below (by go_grown)) (HG.out.below (by go_grown))) ?_
      rintro e w4 ⟨v4, rfl, hI4, hb4⟩
      have hB4 := belowTo (a := w3) (by go_grown) hb4
      replace Hf := Lib.hid (Hf.out.below hB4)
      replace Ha := Lib.hid (Ha.out.below hB4)
      replace Hb := Lib.hid (Hb.out.below hB4)
      replace HG := Lib.hid (HG.out.below hB4)
      replace HB := Lib.hid (belowTo HB.out hB4)
      clear hb4 hB4
      have Hx := Lib.hid (Ints.reads hI4 (by have := HL1.out; omega))
      clear hI4
      go_wp2_with fail
      refine Calls.mono (C4.out _ _ _ (Hf.out.below (by go_grown)) (Hb.out.below (by go_grown)) (HG.out.below (by go_grown))) ?_
      rintro e w5 ⟨v5, rfl, hI5, hb5⟩
      have hB5 := belowTo (a := w4) (by go_grown) hb5
      replace Hf := Lib.hid (Hf.out.below hB5)
      replace Ha := Lib.hid (Ha.out.below hB5)
      replace Hb := Lib.hid (Hb.out.below hB5)
      replace Hx := Lib.hid (Hx.out.below hB5)
      replace HG := Lib.hid (HG.out.below hB5)
      replace HB := Lib.hid (belowTo HB.out hB5)
      clear hb5 hB5
      have Hy := Lib.hid (Ints.reads hI5 (by have := HL2.out; omega))
      clear hI5
      go_wp2_with fail
      refine Calls.mono (sameInts_any _ _ _ _ _ (Hx.out.below (by go_grown)) (Hy.out.below (by go_grown))) ?_
      rintro e w6 ⟨rfl, hb6⟩
      have hB6 := belowTo (a := w5) (by go_grown) hb6
      replace Hf := Lib.hid (Hf.out.below hB6)
      replace Ha := Lib.hid (Ha.out.below hB6)
      replace Hb := Lib.hid (Hb.out.below hB6)
      replace Hx := Lib.hid (Hx.out.below hB6)
      replace Hy := Lib.hid (Hy.out.below hB6)
      replace HG := Lib.hid (HG.out.below hB6)
      replace HB := Lib.hid (belowTo HB.out hB6)
      clear hb6 hB6
      rw [HD.out]
      go_wp2_with fail
      refine Calls.mono (C5.out _ _ _ _ (Hf.out.below (by go_grown)) (Ha.out.below (by go_grown)) (Hb.out.below (by go_grown)) (HG.out.below (by go_grown))) ?_
      rintro e w7 ⟨rfl, hb7⟩
      have hB7 := belowTo (a := w6) (by go_grown) hb7
      replace Hf := Lib.hid (Hf.out.below hB7)
      replace Ha := Lib.hid (Ha.out.below hB7)
      replace Hb := Lib.hid (Hb.out.below hB7)
      replace Hx := Lib.hid (Hx.out.below hB7)
      replace Hy := Lib.hid (Hy.out.below hB7)
      replace HG := Lib.hid (HG.out.below hB7)
      replace HB := Lib.hid (belowTo HB.out hB7)
      clear hb7 hB7
      go_wp2
      go_returns
      exact ⟨rfl, HB.out⟩
    · have HD : Hid (decide (degsZ l a1 = degsZ l b1) = false) := decide_eq_false he
      clear q1 q2 q3 he
      generalize degsZ l a1 = m1 at *
      generalize degsZ l b1 = m2 at *
      generalize prodZ l a1 b1 = X at *
      go_wp2_with fail
      refine Calls.mono (C1.out _ _ _ _ (Hf.out.below (by go_grown)) (Ha.out.below (by go_grown)) (Hb.out.below (by go_grown)) (HG.out.below (by go_grown))) ?_
      rintro e w2 ⟨rfl, hb2⟩
      have hB2 := belowTo (a := w1) (by go_grown) hb2
      replace Hf := Lib.hid (Hf.out.below hB2)
      replace Ha := Lib.hid (Ha.out.below hB2)
      replace Hb := Lib.hid (Hb.out.below hB2)
      replace HG := Lib.hid (HG.out.below hB2)
      replace HB := Lib.hid (belowTo HB.out hB2)
      clear hb2 hB2
      go_wp2_with fail
      refine Calls.mono (C2.out _ _ _ _ (Hf.out.below (by go_grown)) (Ha.out.below (by go_grown)) (Hb.out.below (by go_grown)) (HG.out.below (by go_grown))) ?_
      rintro e w3 ⟨rfl, hb3⟩
      have hB3 := belowTo (a := w2) (by go_grown) hb3
      replace Hf := Lib.hid (Hf.out.below hB3)
      replace Ha := Lib.hid (Ha.out.below hB3)
      replace Hb := Lib.hid (Hb.out.below hB3)
      replace HG := Lib.hid (HG.out.below hB3)
      replace HB := Lib.hid (belowTo HB.out hB3)
      clear hb3 hB3
      go_wp2_with fail
      refine Calls.mono (C3.out _ _ _ (Hf.out.below (by go_grown)) (Ha.out.below (by go_grown)) (HG.out.below (by go_grown))) ?_
      rintro e w4 ⟨v4, rfl, hI4, hb4⟩
      have hB4 := belowTo (a := w3) (by go_grown) hb4
      replace Hf := Lib.hid (Hf.out.below hB4)
      replace Ha := Lib.hid (Ha.out.below hB4)
      replace Hb := Lib.hid (Hb.out.below hB4)
      replace HG := Lib.hid (HG.out.below hB4)
      replace HB := Lib.hid (belowTo HB.out hB4)
      clear hb4 hB4
      have Hx := Lib.hid (Ints.reads hI4 (by have := HL1.out; omega))
      clear hI4
      go_wp2_with fail
      refine Calls.mono (C4.out _ _ _ (Hf.out.below (by go_grown)) (Hb.out.below (by go_grown)) (HG.out.below (by go_grown))) ?_
      rintro e w5 ⟨v5, rfl, hI5, hb5⟩
      have hB5 := belowTo (a := w4) (by go_grown) hb5
      replace Hf := Lib.hid (Hf.out.below hB5)
      replace Ha := Lib.hid (Ha.out.below hB5)
      replace Hb := Lib.hid (Hb.out.below hB5)
      replace Hx := Lib.hid (Hx.out.below hB5)
      replace HG := Lib.hid (HG.out.below hB5)
      replace HB := Lib.hid (belowTo HB.out hB5)
      clear hb5 hB5
      have Hy := Lib.hid (Ints.reads hI5 (by have := HL2.out; omega))
      clear hI5
      go_wp2_with fail
      refine Calls.mono (sameInts_any _ _ _ _ _ (Hx.out.below (by go_grown)) (Hy.out.below (by go_grown))) ?_
      rintro e w6 ⟨rfl, hb6⟩
      have hB6 := belowTo (a := w5) (by go_grown) hb6
      replace Hf := Lib.hid (Hf.out.below hB6)
      replace Ha := Lib.hid (Ha.out.below hB6)
      replace Hb := Lib.hid (Hb.out.below hB6)
      replace Hx := Lib.hid (Hx.out.below hB6)
      replace Hy := Lib.hid (Hy.out.below hB6)
      replace HG := Lib.hid (HG.out.below hB6)
      replace HB := Lib.hid (belowTo HB.out hB6)
      clear hb6 hB6
      rw [HD.out]
      go_wp2
      go_returns
      exact ⟨rfl, HB.out⟩
end Go.Proofs.YtohojjoediibhaaGreatDoor
