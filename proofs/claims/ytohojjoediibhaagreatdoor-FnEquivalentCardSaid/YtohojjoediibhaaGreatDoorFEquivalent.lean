/- FnEquivalent: the walk. -/
import Derived.Test.YtohojjoediibhaaGreatDoorUd
import Derived.Test.YtohojjoediibhaaGreatDoorBm
import Derived.Test.YtohojjoediibhaaGreatDoorSm
import Derived.Test.YtohojjoediibhaaGreatDoorUi
import Derived.Test.YtohojjoediibhaaGreatDoorQ6
import Derived.Test.YtohojjoediibhaaGreatDoorQr
import Derived.Test.YtohojjoediibhaaGreatDoorBe
namespace Go.Proofs.YtohojjoediibhaaGreatDoor
open Go.RowKit

set_option maxRecDepth 100000 in
set_option maxHeartbeats 16000000 in
theorem fnEquivalent_any (a : Option Addr) (len cap : Nat) (w : World) (h : Bytes w a len cap) (hg : EtOk w) :
    Calls Tryz.prog 5 #[.slice a len cap] w fun e w' => e = .returned (.bool true) ∧ Below w.heap.size w w' := by
  by_cases hlen : len ≤ 1048576
  case neg =>
    have j1 : (1048576 : Int) < (len : Int) := by omega
    clear h hg
    go_enter Tryz.func5, Tryz.ntmps5
    go_wp2
    go_returns
    exact ⟨rfl, by go_grown⟩
  case pos =>
  have j1 : (len : Int) ≤ 1048576 := by omega
  have HO := Lib.hid (drawDivisorEquivalent_any w a len cap h)
  clear h
  go_enter Tryz.func5, Tryz.ntmps5
  go_wp2_with fail
  refine Calls.mono HO.out ?_
  rintro e w1 ⟨v, u, t, l, a1, b1, rfl, hV, hI, hJ, h2, h20, ha, hb, hb1⟩
  have HG := Lib.hid (hg.below hb1)
  have Hf := Lib.hid hV
  have Ha := Lib.hid hI
  have Hb := Lib.hid hJ
  have HB : Hid (Below w.heap.size w w1) := hb1
  clear hb1 HO hg hV hI hJ
  cases hk : eqvDB l a1 b1
  · have C1 : Hid (∀ (w' : World) (v0 : Value) (v1 : Value) (v2 : Value), ReadsVecs w' v0 (l) → ReadsInts w' v1 (a1) → ReadsInts w' v2 (b1) → EtOk w' → Calls Tryz.prog 24 #[v0, v1, v2] w' (fun e w'' => e = .returned (.bool (false)) ∧ Below w'.heap.size w' w'')) := fun w' v0 v1 v2 h0 h1 h2 hg' => by
      have h := divisorEquivalent_any v0 (l) v1 (a1) v2 (b1) w' h0 h1 h2 hg'
      rw [hk] at h
      exact h
    have C2 : Hid (∀ (w' : World) (v0 : Value) (v1 : Value) (v2 : Value), ReadsVecs w' v0 (l) → ReadsInts w' v1 (a1) → ReadsInts w' v2 (b1) → EtOk w' → Calls Tryz.prog 25 #[v0, v1, v2] w' (fun e w'' => e = .returned (.bool (false)) ∧ Below w'.heap.size w' w'')) := fun w' v0 v1 v2 h0 h1 h2 hg' => by
      have h := specDivisorEquivalent_any v0 (l) v1 (a1) v2 (b1) w' h0 h1 h2
      rw [hk] at h
      exact h
    clear hk
    go_wp2_with fail
    refine Calls.mono (C1.out _ _ _ _ (Hf.out.below (by go_grown)) (Ha.out.below (by go_grown)) (Hb.out.below (by go_grown)) (HG.out.below (by go_grown))) ?_
    rintro e w2 ⟨rfl, hb2⟩
    have hB2 := belowTo (a := w1) (by go_grown) hb2
    replace Hf := Lib.hid (Hf.out.below hB2)
    replace Ha := Lib.hid (Ha.out.below hB2)
    replace Hb := Lib.hid (Hb.out.below hB2)
    replace HG := Lib.hid (HG.out.below hB2)
    replace HB := Lib.hid (belowTo HB.out hB2)
    clear hb2 hB2
    go_wp2_with fail
    refine Calls.mono (C2.out _ _ _ _ (Hf.out.below (by go_grown)) (Ha.out.below (by go_grown)) (Hb.out.below (by go_grown)) (HG.out.below (by go_grown))) ?_
    rintro e w3 ⟨rfl, hb3⟩
    have hB3 := belowTo (a := w2) (by go_grown) hb3
    replace Hf := Lib.hid (Hf.out.below hB3)
    replace Ha := Lib.hid (Ha.out.below hB3)
    replace Hb := Lib.hid (Hb.out.below hB3)
    replace HG := Lib.hid (HG.out.below hB3)
    replace HB := Lib.hid (belowTo HB.out hB3)
    clear hb3 hB3
    go_wp2
    go_returns
    exact ⟨rfl, HB.out⟩
  · have C1 : Hid (∀ (w' : World) (v0 : Value) (v1 : Value) (v2 : Value), ReadsVecs w' v0 (l) → ReadsInts w' v1 (a1) → ReadsInts w' v2 (b1) → EtOk w' → Calls Tryz.prog 24 #[v0, v1, v2] w' (fun e w'' => e = .returned (.bool (true)) ∧ Below w'.heap.size w' w'')) := fun w' v0 v1 v2 h0 h1 h2 hg' => by
      have h := divisorEquivalent_any v0 (l) v1 (a1) v2 (b1) w' h0 h1 h2 hg'
      rw [hk] at h
      exact h
    have C2 : Hid (∀ (w' : World) (v0 : Value) (v1 : Value) (v2 : Value), ReadsVecs w' v0 (l) → ReadsInts w' v1 (a1) → ReadsInts w' v2 (b1) → EtOk w' → Calls Tryz.prog 25 #[v0, v1, v2] w' (fun e w'' => e = .returned (.bool (true)) ∧ Below w'.heap.size w' w'')) := fun w' v0 v1 v2 h0 h1 h2 hg' => by
      have h := specDivisorEquivalent_any v0 (l) v1 (a1) v2 (b1) w' h0 h1 h2
      rw [hk] at h
      exact h
    obtain ⟨q1, q2, q3⟩ := eqv_in hk
    have q4 := eqv_mk q2 q1 q3.symm
    have C3 : Hid (∀ (w' : World) (v0 : Value) (v1 : Value), ReadsVecs w' v0 (l) → ReadsInts w' v1 (a1) → EtOk w' → Calls Tryz.prog 17 #[v0, v1] w' (GivesIntsOk w' (degsZ l a1) (true))) := fun w' v0 v1 h0 h1 hg' => by
      have h := divisorDegrees_any v0 (l) v1 (a1) w' h0 h1 hg'
      rw [q1] at h
      exact h
    have C4 : Hid (∀ (w' : World) (v0 : Value) (v1 : Value), ReadsVecs w' v0 (l) → ReadsInts w' v1 (b1) → EtOk w' → Calls Tryz.prog 17 #[v0, v1] w' (GivesIntsOk w' (degsZ l a1) (true))) := fun w' v0 v1 h0 h1 hg' => by
      have h := divisorDegrees_any v0 (l) v1 (b1) w' h0 h1 hg'
      rw [q2, ← q3] at h
      exact h
    have C5 : Hid (∀ (w' : World) (v0 : Value) (v1 : Value) (v2 : Value), ReadsVecs w' v0 (l) → ReadsInts w' v1 (b1) → ReadsInts w' v2 (a1) → EtOk w' → Calls Tryz.prog 24 #[v0, v1, v2] w' (fun e w'' => e = .returned (.bool (true)) ∧ Below w'.heap.size w' w'')) := fun w' v0 v1 v2 h0 h1 h2 hg' => by
      have h := divisorEquivalent_any v0 (l) v1 (b1) v2 (a1) w' h0 h1 h2 hg'
      rw [q4] at h
      exact h
    have HL : Hid ((degsZ l a1).length ≤ 1000) := by show _ ≤ _; rw [degs_len]; omega
    clear q1 q2 q3 q4 hk
    generalize degsZ l a1 = m at *
    go_wp2_with fail
    refine Calls.mono (C1.out _ _ _ _ (Hf.out.below (by go_grown)) (Ha.out.below (by go_grown)) (Hb.out.below (by go_grown)) (HG.out.below (by go_grown))) ?_
    rintro e w2 ⟨rfl, hb2⟩
    have hB2 := belowTo (a := w1) (by go_grown) hb2
    replace Hf := Lib.hid (Hf.out.below hB2)
    replace Ha := Lib.hid (Ha.out.below hB2)
    replace Hb := Lib.hid (Hb.out.below hB2)
    replace HG := Lib.hid (HG.out.below hB2)
    replace HB := Lib.hid (belowTo HB.out hB2)
    clear hb2 hB2
    go_wp2_with fail
    refine Calls.mono (C2.out _ _ _ _ (Hf.out.below (by go_grown)) (Ha.out.below (by go_grown)) (Hb.out.below (by go_grown)) (HG.out.below (by go_grown))) ?_
    rintro e w3 ⟨rfl, hb3⟩
    have hB3 := belowTo (a := w2) (by go_grown) hb3
    replace Hf := Lib.hid (Hf.out.below hB3)
    replace Ha := Lib.hid (Ha.out.below hB3)
    replace Hb := Lib.hid (Hb.out.below hB3)
    replace HG := Lib.hid (HG.out.below hB3)
    replace HB := Lib.hid (belowTo HB.out hB3)
    clear hb3 hB3
    go_wp2_with fail
    refine Calls.mono (C3.out _ _ _ (Hf.out.below (by go_grown)) (Ha.out.below (by go_grown)) (HG.out.below (by go_grown))) ?_
    rintro e w4 ⟨v4, rfl, hI4, hb4⟩
    have hB4 := belowTo (a := w3) (by go_grown) hb4
    replace Hf := Lib.hid (Hf.out.below hB4)
    replace Ha := Lib.hid (Ha.out.below hB4)
    replace Hb := Lib.hid (Hb.out.below hB4)
    replace HG := Lib.hid (HG.out.below hB4)
    replace HB := Lib.hid (belowTo HB.out hB4)
    clear hb4 hB4
    have Hx := Lib.hid (Ints.reads hI4 (by have := HL.out; omega))
    clear hI4
    go_wp2_with fail
    refine Calls.mono (C4.out _ _ _ (Hf.out.below (by go_grown)) (Hb.out.below (by go_grown)) (HG.out.below (by go_grown))) ?_
    rintro e w5 ⟨v5, rfl, hI5, hb5⟩
    have hB5 := belowTo (a := w4) (by go_grown) hb5
    replace Hf := Lib.hid (Hf.out.below hB5)
    replace Ha := Lib.hid (Ha.out.below hB5)
    replace Hb := Lib.hid (Hb.out.below hB5)
    replace Hx := Lib.hid (Hx.out.below hB5)
    replace HG := Lib.hid (HG.out.below hB5)
    replace HB := Lib.hid (belowTo HB.out hB5)
    clear hb5 hB5
    have Hy := Lib.hid (Ints.reads hI5 (by have := HL.out; omega))
    clear hI5
    go_wp2_with fail
    refine Calls.mono (sameInts_eq _ _ _ _ (Hx.out.below (by go_grown)) (Hy.out.below (by go_grown))) ?_
    rintro e w6 ⟨rfl, hb6⟩
    have hB6 := belowTo (a := w5) (by go_grown) hb6
    replace Hf := Lib.hid (Hf.out.below hB6)
    replace Ha := Lib.hid (Ha.out.below hB6)
    replace Hb := Lib.hid (Hb.out.below hB6)
    replace Hx := Lib.hid (Hx.out.below hB6)
    replace Hy := Lib.hid (Hy.out.below hB6)
    replace HG := Lib.hid (HG.out.below hB6)
    replace HB := Lib.hid (belowTo HB.out hB6)
    clear hb6 hB6
    go_wp2_with fail
    refine Calls.mono (C5.out _ _ _ _ (Hf.out.below (by go_grown)) (Hb.out.below (by go_grown)) (Ha.out.below (by go_grown)) (HG.out.below (by go_grown))) ?_
    rintro e w7 ⟨rfl, hb7⟩
    have hB7 := belowTo (a := w6) (by go_grown) hb7
    replace Hf := Lib.hid (Hf.out.below hB7)
    replace Ha := Lib.hid (Ha.out.below hB7)
    replace Hb := Lib.hid (Hb.out.below hB7)
    replace Hx := Lib.hid (Hx.out.below hB7)
    replace Hy := Lib.hid (Hy.out.below hB7)
    replace HG := Lib.hid (HG.out.below hB7)
    replace HB := Lib.hid (belowTo HB.out hB7)
    clear hb7 hB7
    go_wp2
    go_returns
    exact ⟨rfl, HB.out⟩
end Go.Proofs.YtohojjoediibhaaGreatDoor
