/- FnFanKind: the walk. -/
import Derived.Test.YtdlofnkimikaiaaGreatDoorUm
import Derived.Test.YtdlofnkimikaiaaGreatDoorOd
import Derived.Test.YtdlofnkimikaiaaGreatDoorI4
import Derived.Test.YtdlofnkimikaiaaGreatDoorSm
import Derived.Test.YtdlofnkimikaiaaGreatDoorI5
import Derived.Test.YtdlofnkimikaiaaGreatDoorPm
import Derived.Test.YtdlofnkimikaiaaGreatDoorEw
namespace Go.Proofs.YtdlofnkimikaiaaGreatDoor
open Go.RowKit

set_option maxRecDepth 100000 in
set_option maxHeartbeats 16000000 in
theorem fnFanKind_any (a : Option Addr) (len cap : Nat) (w : World) (h : Bytes w a len cap) (hg : EtOk w) :
    Calls Tryz.prog 3 #[.slice a len cap] w fun e w' => e = .returned (.bool true) ∧ Below w.heap.size w w' := by
  by_cases hlen : len ≤ 1048576
  case neg =>
    have j1 : (1048576 : Int) < (len : Int) := by omega
    clear h hg
    go_enter Tryz.func3, Tryz.ntmps3
    go_wp2
    go_returns
    exact ⟨rfl, by go_grown⟩
  case pos =>
  have j1 : (len : Int) ≤ 1048576 := by omega
  have HO := Lib.hid (drawFanKind_any w a len cap h)
  clear h
  go_enter Tryz.func3, Tryz.ntmps3
  go_wp2_with fail
  refine Calls.mono HO.out ?_
  rintro e w1 ⟨v, l, rfl, hV, h2, h20, hb1⟩
  have HG := Lib.hid (hg.below hb1)
  have Hf := Lib.hid hV
  have HB : Hid (Below w.heap.size w w1) := hb1
  clear hb1 HO hg hV
  cases hk : (smoothB l && kindOk l)
  · have C1 : Hid (∀ (w' : World) (v0 : Value), ReadsVecs w' v0 (l) → EtOk w' → Calls Tryz.prog 6 #[v0] w' (fun e w'' => e = .returned (.tuple #[.int .i64 (0), .bool (false)]) ∧ Below w'.heap.size w' w'')) := fun w' v0 h0 hg' => by
      have h := fanKind_any v0 l w' h0 hg'
      rw [hk] at h
      exact h
    have C2 : Hid (∀ (w' : World) (v0 : Value), ReadsVecs w' v0 (l) → EtOk w' → Calls Tryz.prog 7 #[v0] w' (fun e w'' => e = .returned (.tuple #[.int .i64 (0), .bool (false)]) ∧ Below w'.heap.size w' w'')) := fun w' v0 h0 hg' => by
      have h := specFanKind_any v0 l w' h0
      rw [hk] at h
      exact h
    clear hk
    go_wp2_with fail
    refine Calls.mono (C1.out _ _ (Hf.out.below (by go_grown)) (HG.out.below (by go_grown))) ?_
    rintro e w2 ⟨rfl, hb2⟩
    have hB2 := belowTo (a := w1) (by go_grown) hb2
    replace Hf := Lib.hid (Hf.out.below hB2)
    replace HG := Lib.hid (HG.out.below hB2)
    replace HB := Lib.hid (belowTo HB.out hB2)
    clear hb2 hB2
    go_wp2_with fail
    refine Calls.mono (C2.out _ _ (Hf.out.below (by go_grown)) (HG.out.below (by go_grown))) ?_
    rintro e w3 ⟨rfl, hb3⟩
    have hB3 := belowTo (a := w2) (by go_grown) hb3
    replace Hf := Lib.hid (Hf.out.below hB3)
    replace HG := Lib.hid (HG.out.below hB3)
    replace HB := Lib.hid (belowTo HB.out hB3)
    clear hb3 hB3
    go_wp2
    go_returns
    exact ⟨rfl, HB.out⟩
  · have C1 : Hid (∀ (w' : World) (v0 : Value), ReadsVecs w' v0 (l) → EtOk w' → Calls Tryz.prog 6 #[v0] w' (fun e w'' => e = .returned (.tuple #[.int .i64 (kind4 l), .bool (true)]) ∧ Below w'.heap.size w' w'')) := fun w' v0 h0 hg' => by
      have h := fanKind_any v0 l w' h0 hg'
      rw [hk] at h
      exact h
    have C2 : Hid (∀ (w' : World) (v0 : Value), ReadsVecs w' v0 (l) → EtOk w' → Calls Tryz.prog 7 #[v0] w' (fun e w'' => e = .returned (.tuple #[.int .i64 (kind4 l), .bool (true)]) ∧ Below w'.heap.size w' w'')) := fun w' v0 h0 hg' => by
      have h := specFanKind_any v0 l w' h0
      rw [hk] at h
      exact h
    rw [Bool.and_eq_true] at hk
    obtain ⟨q0, q1⟩ := hk
    obtain ⟨q2, q3, q4, q5⟩ := quarter_all q0
    have q6 : kindOk (sortL (movedZ l 0 (-1) 1 0)) = true := by unfold kindOk at *; rw [q5]; exact q1
    have q7 := kind_low l
    have C3 : Hid (∀ (w' : World) (v0 : Value), ReadsVecs w' v0 (l) → EtOk w' → Calls Tryz.prog 8 #[v0, .agg #[.int .i64 (0), .int .i64 (-1), .int .i64 (1), .int .i64 (0)]] w' (GivesVecsOk w' (sortL (movedZ l 0 (-1) 1 0)) (true))) := fun w' v0 h0 hg' => by
      have h := fanMove_any v0 (l) 0 (-1) 1 0 w' h0 hg'
      rw [q2] at h
      exact h
    have C4 : Hid (∀ (w' : World) (v0 : Value), ReadsVecs w' v0 (sortL (movedZ l 0 (-1) 1 0)) → EtOk w' → Calls Tryz.prog 6 #[v0] w' (fun e w'' => e = .returned (.tuple #[.int .i64 (kind4 l), .bool (true)]) ∧ Below w'.heap.size w' w'')) := fun w' v0 h0 hg' => by
      have h := fanKind_any v0 (sortL (movedZ l 0 (-1) 1 0)) w' h0 hg'
      rw [q3, q6, q4] at h
      exact h
    have HL : Hid ((sortL (movedZ l 0 (-1) 1 0)).length ≤ 1000) := by show _ ≤ _; rw [q5]; omega
    generalize sortL (movedZ l 0 (-1) 1 0) = m at *
    generalize kind4 l = k at *
    clear q0 q1 q2 q3 q4 q5 q6
    cases hk2 : kinB k
    · have C5 : Hid (∀ (w' : World),  EtOk w' → Calls Tryz.prog 9 #[.int .i64 k] w' (GivesVecsOk w' ([]) (false))) := fun w'  hg' => by
        have h := surfaceKind_any k w'
        unfold kinR at h; rw [hk2] at h
        exact h
      have e4 : ¬ (0 ≤ k ∧ k ≤ 100) := by intro hc; simp [kinB, hc] at hk2
      have e0 : smoothB ([] : List V2) = false := rfl
      have C6 : Hid (∀ (w' : World) (v0 : Value), ReadsVecs w' v0 ([]) → EtOk w' → Calls Tryz.prog 6 #[v0] w' (fun e w'' => e = .returned (.tuple #[.int .i64 (0), .bool (false)]) ∧ Below w'.heap.size w' w'')) := fun w' v0 h0 hg' => by
        have h := fanKind_any v0 ([]) w' h0 hg'
        rw [e0] at h
        exact h
      clear e0 hk2
      have e5 : k < 0 ∨ (¬ k < 0 ∧ 100 < k) := by omega
      clear e4
      go_wp2_with fail
      refine Calls.mono (C1.out _ _ (Hf.out.below (by go_grown)) (HG.out.below (by go_grown))) ?_
      rintro e w2 ⟨rfl, hb2⟩
      have hB2 := belowTo (a := w1) (by go_grown) hb2
      replace Hf := Lib.hid (Hf.out.below hB2)
      replace HG := Lib.hid (HG.out.below hB2)
      replace HB := Lib.hid (belowTo HB.out hB2)
      clear hb2 hB2
      go_wp2_with fail
      refine Calls.mono (C2.out _ _ (Hf.out.below (by go_grown)) (HG.out.below (by go_grown))) ?_
      rintro e w3 ⟨rfl, hb3⟩
      have hB3 := belowTo (a := w2) (by go_grown) hb3
      replace Hf := Lib.hid (Hf.out.below hB3)
      replace HG := Lib.hid (HG.out.below hB3)
      replace HB := Lib.hid (belowTo HB.out hB3)
      clear hb3 hB3
      go_wp2_with fail
      refine Calls.mono (C3.out _ _ (Hf.out.below (by go_grown)) (HG.out.below (by go_grown))) ?_
      rintro e w4 ⟨v4, rfl, hI4, hb4⟩
      have hB4 := belowTo (a := w3) (by go_grown) hb4
      replace Hf := Lib.hid (Hf.out.below hB4)
      replace HG := Lib.hid (HG.out.below hB4)
      replace HB := Lib.hid (belowTo HB.out hB4)
      clear hb4 hB4
      have Hx := Lib.hid (Vecs.reads hI4 (by have := HL.out; omega))
      clear hI4
      go_wp2_with fail
      refine Calls.mono (C4.out _ _ (Hx.out.below (by go_grown)) (HG.out.below (by go_grown))) ?_
      rintro e w5 ⟨rfl, hb5⟩
      have hB5 := belowTo (a := w4) (by go_grown) hb5
      replace Hf := Lib.hid (Hf.out.below hB5)
      replace Hx := Lib.hid (Hx.out.below hB5)
      replace HG := Lib.hid (HG.out.below hB5)
      replace HB := Lib.hid (belowTo HB.out hB5)
      clear hb5 hB5
      go_wp2_with fail
      refine Calls.mono (C5.out _   (HG.out.below (by go_grown))) ?_
      rintro e w6 ⟨v6, rfl, hI6, hb6⟩
      have hB6 := belowTo (a := w5) (by go_grown) hb6
      replace Hf := Lib.hid (Hf.out.below hB6)
      replace Hx := Lib.hid (Hx.out.below hB6)
      replace HG := Lib.hid (HG.out.below hB6)
      replace HB := Lib.hid (belowTo HB.out hB6)
      clear hb6 hB6
      have Hs := Lib.hid (Vecs.reads hI6 (by simp))
      clear hI6
      go_wp2_with fail
      refine Calls.mono (C6.out _ _ (Hs.out.below (by go_grown)) (HG.out.below (by go_grown))) ?_
      rintro e w7 ⟨rfl, hb7⟩
      have hB7 := belowTo (a := w6) (by go_grown) hb7
      replace Hf := Lib.hid (Hf.out.below hB7)
      replace Hx := Lib.hid (Hx.out.below hB7)
      replace Hs := Lib.hid (Hs.out.below hB7)
      replace HG := Lib.hid (HG.out.below hB7)
      replace HB := Lib.hid (belowTo HB.out hB7)
      clear hb7 hB7
      rcases e5 with e5 | ⟨e5, e6⟩
      · go_wp2
        go_returns
        exact ⟨rfl, HB.out⟩
      · go_wp2
        go_returns
        exact ⟨rfl, HB.out⟩
    · have C5 : Hid (∀ (w' : World),  EtOk w' → Calls Tryz.prog 9 #[.int .i64 k] w' (GivesVecsOk w' (kinL k) (true))) := fun w'  hg' => by
        have h := surfaceKind_any k w'
        unfold kinR at h; rw [hk2] at h
        exact h
      have e1 := kin_smooth hk2
      have e2 := kin_four hk2
      have e3 : kindOk (kinL k) = true := rfl
      have e4 : 0 ≤ k ∧ k ≤ 100 := by simpa [kinB] using hk2
      have C6 : Hid (∀ (w' : World) (v0 : Value), ReadsVecs w' v0 (kinL k) → EtOk w' → Calls Tryz.prog 6 #[v0] w' (fun e w'' => e = .returned (.tuple #[.int .i64 (k), .bool (true)]) ∧ Below w'.heap.size w' w'')) := fun w' v0 h0 hg' => by
        have h := fanKind_any v0 (kinL k) w' h0 hg'
        rw [e1, e3, e2] at h
        exact h
      have HL2 : Hid ((kinL k).length ≤ 1000) := by show _ ≤ _; simp [kinL]
      generalize kinL k = s at *
      obtain ⟨e5, e6⟩ := e4
      clear e1 e2 e3 hk2
      go_wp2_with fail
      refine Calls.mono (C1.out _ _ (Hf.out.below (by go_grown)) (HG.out.below (by go_grown))) ?_
      rintro e w2 ⟨rfl, hb2⟩
      have hB2 := belowTo (a := w1) (by go_grown) hb2
      replace Hf := Lib.hid (Hf.out.below hB2)
      replace HG := Lib.hid (HG.out.below hB2)
      replace HB := Lib.hid (belowTo HB.out hB2)
      clear hb2 hB2
      go_wp2_with fail
      refine Calls.mono (C2.out _ _ (Hf.out.below (by go_grown)) (HG.out.below (by go_grown))) ?_
      rintro e w3 ⟨rfl, hb3⟩
      have hB3 := belowTo (a := w2) (by go_grown) hb3
      replace Hf := Lib.hid (Hf.out.below hB3)
      replace HG := Lib.hid (HG.out.below hB3)
      replace HB := Lib.hid (belowTo HB.out hB3)
      clear hb3 hB3
      go_wp2_with fail
      refine Calls.mono (C3.out _ _ (Hf.out.below (by go_grown)) (HG.out.below (by go_grown))) ?_
      rintro e w4 ⟨v4, rfl, hI4, hb4⟩
      have hB4 := belowTo (a := w3) (by go_grown) hb4
      replace Hf := Lib.hid (Hf.out.below hB4)
      replace HG := Lib.hid (HG.out.below hB4)
      replace HB := Lib.hid (belowTo HB.out hB4)
      clear hb4 hB4
      have Hx := Lib.hid (Vecs.reads hI4 (by have := HL.out; omega))
      clear hI4
      go_wp2_with fail
      refine Calls.mono (C4.out _ _ (Hx.out.below (by go_grown)) (HG.out.below (by go_grown))) ?_
      rintro e w5 ⟨rfl, hb5⟩
      have hB5 := belowTo (a := w4) (by go_grown) hb5
      replace Hf := Lib.hid (Hf.out.below hB5)
      replace Hx := Lib.hid (Hx.out.below hB5)
      replace HG := Lib.hid (HG.out.below hB5)
      replace HB := Lib.hid (belowTo HB.out hB5)
      clear hb5 hB5
      go_wp2_with fail
      refine Calls.mono (C5.out _   (HG.out.below (by go_grown))) ?_
      rintro e w6 ⟨v6, rfl, hI6, hb6⟩
      have hB6 := belowTo (a := w5) (by go_grown) hb6
      replace Hf := Lib.hid (Hf.out.below hB6)
      replace Hx := Lib.hid (Hx.out.below hB6)
      replace HG := Lib.hid (HG.out.below hB6)
      replace HB := Lib.hid (belowTo HB.out hB6)
      clear hb6 hB6
      have Hs := Lib.hid (Vecs.reads hI6 (by have := HL2.out; omega))
      clear hI6
      go_wp2_with fail
      refine Calls.mono (C6.out _ _ (Hs.out.below (by go_grown)) (HG.out.below (by go_grown))) ?_
      rintro e w7 ⟨rfl, hb7⟩
      have hB7 := belowTo (a := w6) (by go_grown) hb7
      replace Hf := Lib.hid (Hf.out.below hB7)
      replace Hx := Lib.hid (Hx.out.below hB7)
      replace Hs := Lib.hid (Hs.out.below hB7)
      replace HG := Lib.hid (HG.out.below hB7)
      replace HB := Lib.hid (belowTo HB.out hB7)
      clear hb7 hB7
      go_wp2
      go_returns
      exact ⟨rfl, HB.out⟩
end Go.Proofs.YtdlofnkimikaiaaGreatDoor
