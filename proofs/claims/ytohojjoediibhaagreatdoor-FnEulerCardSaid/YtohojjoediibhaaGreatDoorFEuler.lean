/- FnEuler: the walk. -/
import Derived.Test.YtohojjoediibhaaGreatDoorUh
import Derived.Test.YtohojjoediibhaaGreatDoorNc
import Derived.Test.YtohojjoediibhaaGreatDoorSm
import Derived.Test.YtohojjoediibhaaGreatDoorSn
import Derived.Test.YtohojjoediibhaaGreatDoorQy
import Derived.Test.YtohojjoediibhaaGreatDoorQv
import Derived.Test.YtohojjoediibhaaGreatDoorQk
import Derived.Test.YtohojjoediibhaaGreatDoorQh
namespace Go.Proofs.YtohojjoediibhaaGreatDoor
open Go.RowKit

set_option maxRecDepth 100000 in
set_option maxHeartbeats 16000000 in
theorem fnEuler_any (a : Option Addr) (len cap : Nat) (w : World) (h : Bytes w a len cap) (hg : EtOk w) :
    Calls Tryz.prog 8 #[.slice a len cap] w fun e w' => e = .returned (.bool true) ∧ Below w.heap.size w w' := by
  by_cases hlen : len ≤ 1048576
  case neg =>
    have j1 : (1048576 : Int) < (len : Int) := by omega
    clear h hg
    go_enter Tryz.func8, Tryz.ntmps8
    go_wp2
    go_returns
    exact ⟨rfl, by go_grown⟩
  case pos =>
  have j1 : (len : Int) ≤ 1048576 := by omega
  have HO := Lib.hid (drawDivisorEuler_any w a len cap h)
  clear h
  go_enter Tryz.func8, Tryz.ntmps8
  go_wp2_with fail
  refine Calls.mono HO.out ?_
  rintro e w1 ⟨v, u, l, d, rfl, hV, hI, h2, h20, hd, hb1⟩
  have HG := Lib.hid (hg.below hb1)
  have Hf := Lib.hid hV
  have Hd := Lib.hid hI
  have HB : Hid (Below w.heap.size w w1) := hb1
  clear hb1 HO hg hV hI
  obtain ⟨va, vc, rfl, _⟩ := Hf.out
  obtain ⟨i0, hi, hz0, hz1, hz2⟩ := info_parts infoInt
  cases hk : divB l d
  · have C1 : Hid (∀ (w' : World) (v0 : Value) (v1 : Value), ReadsVecs w' v0 (l) → ReadsInts w' v1 (d) → EtOk w' → Calls Tryz.prog 29 #[v0, v1] w' (fun e w'' => e = .returned (.tuple #[.int .i64 (0), .bool (false)]) ∧ Below w'.heap.size w' w'')) := fun w' v0 v1 h0 h1 hg' => by
      have h := divisorEuler_any v0 (l) v1 (d) w' h0 h1 hg'
      rw [hk] at h
      exact h
    have C2 : Hid (∀ (w' : World) (v0 : Value) (v1 : Value), ReadsVecs w' v0 (l) → ReadsInts w' v1 (d) → EtOk w' → Calls Tryz.prog 30 #[v0, v1] w' (fun e w'' => e = .returned (.tuple #[.int .i64 (0), .bool (false)]) ∧ Below w'.heap.size w' w'')) := fun w' v0 v1 h0 h1 hg' => by
      have h := specDivisorEuler_any v0 (l) v1 (d) w' h0 h1
      rw [hk] at h
      exact h
    clear hk
    go_wp2_with fail
    refine Calls.mono (C1.out _ _ _ (Hf.out.below (by go_grown)) (Hd.out.below (by go_grown)) (HG.out.below (by go_grown))) ?_
    rintro e w2 ⟨rfl, hb2⟩
    have hB2 := belowTo (a := w1) (by go_grown) hb2
    replace Hf := Lib.hid (Hf.out.below hB2)
    replace Hd := Lib.hid (Hd.out.below hB2)
    replace HG := Lib.hid (HG.out.below hB2)
    replace HB := Lib.hid (belowTo HB.out hB2)
    clear hb2 hB2
    go_wp2_with fail
    refine Calls.mono (C2.out _ _ _ (Hf.out.below (by go_grown)) (Hd.out.below (by go_grown)) (HG.out.below (by go_grown))) ?_
    rintro e w3 ⟨rfl, hb3⟩
    have hB3 := belowTo (a := w2) (by go_grown) hb3
    replace Hf := Lib.hid (Hf.out.below hB3)
    replace Hd := Lib.hid (Hd.out.below hB3)
    replace HG := Lib.hid (HG.out.below hB3)
    replace HB := Lib.hid (belowTo HB.out hB3)
    clear hb3 hB3
    go_wp2
    go_returns
    exact ⟨rfl, HB.out⟩
  · have C1 : Hid (∀ (w' : World) (v0 : Value) (v1 : Value), ReadsVecs w' v0 (l) → ReadsInts w' v1 (d) → EtOk w' → Calls Tryz.prog 29 #[v0, v1] w' (fun e w'' => e = .returned (.tuple #[.int .i64 (eulZ l d (-1)), .bool (true)]) ∧ Below w'.heap.size w' w'')) := fun w' v0 v1 h0 h1 hg' => by
      have h := divisorEuler_any v0 (l) v1 (d) w' h0 h1 hg'
      rw [hk] at h
      exact h
    have C2 : Hid (∀ (w' : World) (v0 : Value) (v1 : Value), ReadsVecs w' v0 (l) → ReadsInts w' v1 (d) → EtOk w' → Calls Tryz.prog 30 #[v0, v1] w' (fun e w'' => e = .returned (.tuple #[.int .i64 (eulZ l d (-1)), .bool (true)]) ∧ Below w'.heap.size w' w'')) := fun w' v0 v1 h0 h1 hg' => by
      have h := specDivisorEuler_any v0 (l) v1 (d) w' h0 h1
      rw [hk] at h
      exact h
    have q0 := (div_in hk).1
    have hl := (div_in hk).2.1
    have q1 := tim_minus hk
    have q2 := eul_dual (l := l) (d := d) (by omega) hl
    have q3 := can_div q0
    have q4 := div_zero q0
    have q5 := eul_zero l
    have hp : addDB l (canL l.length) (timesL d (-1)) = divB l (sumL (canL l.length) 1 (timesL d (-1))) := by unfold addDB; rw [q3, div_minus hk]; rfl
    have C3 : Hid (∀ (w' : World) (v0 : Value), ReadsVecs w' v0 (l) → EtOk w' → Calls Tryz.prog 18 #[v0] w' (GivesIntsOk w' (canL l.length) (true))) := fun w' v0 h0 hg' => by
      have h := divisorCanonical_any v0 (l) w' h0 hg'
      rw [q0] at h
      exact h
    have C4 : Hid (∀ (w' : World) (v0 : Value) (v1 : Value), ReadsVecs w' v0 (l) → ReadsInts w' v1 (d) → EtOk w' → Calls Tryz.prog 31 #[v0, v1, .int .i64 (-1)] w' (GivesIntsOk w' (timesL d (-1)) (true))) := fun w' v0 v1 h0 h1 hg' => by
      have h := divisorTimes_any v0 (l) v1 (d) (-1) w' h0 h1 hg'
      rw [q1] at h
      exact h
    have C7 : Hid (∀ (w' : World) (v0 : Value) (v1 : Value), ReadsVecs w' v0 (l) → ReadsInts w' v1 (List.replicate l.length 0) → EtOk w' → Calls Tryz.prog 29 #[v0, v1] w' (fun e w'' => e = .returned (.tuple #[.int .i64 (1), .bool (true)]) ∧ Below w'.heap.size w' w'')) := fun w' v0 v1 h0 h1 hg' => by
      have h := divisorEuler_any v0 (l) v1 (List.replicate l.length 0) w' h0 h1 hg'
      rw [q4, q5] at h
      exact h
    have HL : Hid ((timesL d (-1)).length ≤ 1000) := by show _ ≤ _; rw [timesL_len]; omega
    have HL2 : Hid ((canL l.length).length ≤ 1000) := by show _ ≤ _; simp [canL]; omega
    cases hk2 : divB l (sumL (canL l.length) 1 (timesL d (-1)))
    · have C5 : Hid (∀ (w' : World) (v0 : Value) (v1 : Value) (v2 : Value), ReadsVecs w' v0 (l) → ReadsInts w' v1 (canL l.length) → ReadsInts w' v2 (timesL d (-1)) → EtOk w' → Calls Tryz.prog 32 #[v0, v1, v2] w' (GivesIntsOk w' ([]) (false))) := fun w' v0 v1 v2 h0 h1 h2 hg' => by
        have h := divisorAdd_any v0 (l) v1 (canL l.length) v2 (timesL d (-1)) w' h0 h1 h2 hg'
        rw [hp, hk2] at h
        exact h
      have C6 : Hid (∀ (w' : World) (v0 : Value) (v1 : Value), ReadsVecs w' v0 (l) → ReadsInts w' v1 ([]) → EtOk w' → Calls Tryz.prog 29 #[v0, v1] w' (fun e w'' => e = .returned (.tuple #[.int .i64 (0), .bool (false)]) ∧ Below w'.heap.size w' w'')) := fun w' v0 v1 h0 h1 hg' => by
        have h := divisorEuler_any v0 (l) v1 ([]) w' h0 h1 hg'
        rw [div_nil (by omega)] at h
        exact h
      clear hk hk2 hp q0 q1 q2 q3 q4 q5 hl
      generalize timesL d (-1) = m at *
      generalize canL l.length = k at *
      generalize eulZ l d (-1) = X at *
      go_wp2_with fail
      refine Calls.mono (C1.out _ _ _ (Hf.out.below (by go_grown)) (Hd.out.below (by go_grown)) (HG.out.below (by go_grown))) ?_
      rintro e w2 ⟨rfl, hb2⟩
      have hB2 := belowTo (a := w1) (by go_grown) hb2
      replace Hf := Lib.hid (Hf.out.below hB2)
      replace Hd := Lib.hid (Hd.out.below hB2)
      replace HG := Lib.hid (HG.out.below hB2)
      replace HB := Lib.hid (belowTo HB.out hB2)
      clear hb2 hB2
      go_wp2_with fail
      refine Calls.mono (C2.out _ _ _ (Hf.out.below (by go_grown)) (Hd.out.below (by go_grown)) (HG.out.below (by go_grown))) ?_
      rintro e w3 ⟨rfl, hb3⟩
      have hB3 := belowTo (a := w2) (by go_grown) hb3
      replace Hf := Lib.hid (Hf.out.below hB3)
      replace Hd := Lib.hid (Hd.out.below hB3)
      replace HG := Lib.hid (HG.out.below hB3)
      replace HB := Lib.hid (belowTo HB.out hB3)
      clear hb3 hB3
      go_wp2_with fail
      refine Calls.mono (C3.out _ _ (Hf.out.below (by go_grown)) (HG.out.below (by go_grown))) ?_
      rintro e w4 ⟨v4, rfl, hI4, hb4⟩
      have hB4 := belowTo (a := w3) (by go_grown) hb4
      replace Hf := Lib.hid (Hf.out.below hB4)
      replace Hd := Lib.hid (Hd.out.below hB4)
      replace HG := Lib.hid (HG.out.below hB4)
      replace HB := Lib.hid (belowTo HB.out hB4)
      clear hb4 hB4
      have Hk := Lib.hid (Ints.reads hI4 (by have := HL2.out; omega))
      clear hI4
      go_wp2_with fail
      refine Calls.mono (C4.out _ _ _ (Hf.out.below (by go_grown)) (Hd.out.below (by go_grown)) (HG.out.below (by go_grown))) ?_
      rintro e w5 ⟨v5, rfl, hI5, hb5⟩
      have hB5 := belowTo (a := w4) (by go_grown) hb5
      replace Hf := Lib.hid (Hf.out.below hB5)
      replace Hd := Lib.hid (Hd.out.below hB5)
      replace Hk := Lib.hid (Hk.out.below hB5)
      replace HG := Lib.hid (HG.out.below hB5)
      replace HB := Lib.hid (belowTo HB.out hB5)
      clear hb5 hB5
      have Hm := Lib.hid (Ints.reads hI5 (by have := HL.out; omega))
      clear hI5
      go_wp2_with fail
      refine Calls.mono (C5.out _ _ _ _ (Hf.out.below (by go_grown)) (Hk.out.below (by go_grown)) (Hm.out.below (by go_grown)) (HG.out.below (by go_grown))) ?_
      rintro e w6 ⟨v6, rfl, hI6, hb6⟩
      have hB6 := belowTo (a := w5) (by go_grown) hb6
      replace Hf := Lib.hid (Hf.out.below hB6)
      replace Hd := Lib.hid (Hd.out.below hB6)
      replace Hk := Lib.hid (Hk.out.below hB6)
      replace Hm := Lib.hid (Hm.out.below hB6)
      replace HG := Lib.hid (HG.out.below hB6)
      replace HB := Lib.hid (belowTo HB.out hB6)
      clear hb6 hB6
      have Hs := Lib.hid (Ints.reads hI6 (by simp))
      clear hI6
      go_wp2_with fail
      refine Calls.mono (C6.out _ _ _ (Hf.out.below (by go_grown)) (Hs.out.below (by go_grown)) (HG.out.below (by go_grown))) ?_
      rintro e w7 ⟨rfl, hb7⟩
      have hB7 := belowTo (a := w6) (by go_grown) hb7
      replace Hf := Lib.hid (Hf.out.below hB7)
      replace Hd := Lib.hid (Hd.out.below hB7)
      replace Hk := Lib.hid (Hk.out.below hB7)
      replace Hm := Lib.hid (Hm.out.below hB7)
      replace Hs := Lib.hid (Hs.out.below hB7)
      replace HG := Lib.hid (HG.out.below hB7)
      replace HB := Lib.hid (belowTo HB.out hB7)
      clear hb7 hB7
      go_wp2_with (refine wpList_make_want _ (by rfl) _ _ 28 rfl w7.heap.size 3 i0 (.int .i64 0) 1 Tryz.underlying28 hi hz0 hz1 .i64 .i64 _ _ l.length rfl rfl rfl rfl ?c1 ?c2 ?c3 ?_)
      case c1 => rw [hz2]; omega
      case c2 => unfold maxLen; omega
      case c3 => first | exact Nat.le_refl _ | (simp; done)
      intro w8 hown hgrow
      have hB8 : Below w7.heap.size w7 w8 := (by go_grown : Below w7.heap.size w7 _).grown hgrow (Nat.le_refl _) (fun k e => by cases e)
      have Hz := Lib.hid (made_zeros (by omega) hown)
      clear hown hgrow
      replace Hf := Lib.hid (Hf.out.below hB8)
      replace Hd := Lib.hid (Hd.out.below hB8)
      replace Hk := Lib.hid (Hk.out.below hB8)
      replace Hm := Lib.hid (Hm.out.below hB8)
      replace Hs := Lib.hid (Hs.out.below hB8)
      replace HG := Lib.hid (HG.out.below hB8)
      replace HB := Lib.hid (belowTo HB.out hB8)
      clear hB8
      go_wp2_with fail
      refine Calls.mono (C7.out _ _ _ (Hf.out.below (by go_grown)) (Hz.out.below (by go_grown)) (HG.out.below (by go_grown))) ?_
      rintro e w9 ⟨rfl, hb9⟩
      have hB9 := belowTo (a := w8) (by go_grown) hb9
      replace Hf := Lib.hid (Hf.out.below hB9)
      replace Hd := Lib.hid (Hd.out.below hB9)
      replace Hk := Lib.hid (Hk.out.below hB9)
      replace Hm := Lib.hid (Hm.out.below hB9)
      replace Hs := Lib.hid (Hs.out.below hB9)
      replace Hz := Lib.hid (Hz.out.below hB9)
      replace HG := Lib.hid (HG.out.below hB9)
      replace HB := Lib.hid (belowTo HB.out hB9)
      clear hb9 hB9
      go_wp2
      go_returns
      exact ⟨rfl, HB.out⟩
    · have C5 : Hid (∀ (w' : World) (v0 : Value) (v1 : Value) (v2 : Value), ReadsVecs w' v0 (l) → ReadsInts w' v1 (canL l.length) → ReadsInts w' v2 (timesL d (-1)) → EtOk w' → Calls Tryz.prog 32 #[v0, v1, v2] w' (GivesIntsOk w' (sumL (canL l.length) 1 (timesL d (-1))) (true))) := fun w' v0 v1 v2 h0 h1 h2 hg' => by
        have h := divisorAdd_any v0 (l) v1 (canL l.length) v2 (timesL d (-1)) w' h0 h1 h2 hg'
        rw [hp, hk2] at h
        exact h
      have C6 : Hid (∀ (w' : World) (v0 : Value) (v1 : Value), ReadsVecs w' v0 (l) → ReadsInts w' v1 (sumL (canL l.length) 1 (timesL d (-1))) → EtOk w' → Calls Tryz.prog 29 #[v0, v1] w' (fun e w'' => e = .returned (.tuple #[.int .i64 (eulZ l d (-1)), .bool (true)]) ∧ Below w'.heap.size w' w'')) := fun w' v0 v1 h0 h1 hg' => by
        have h := divisorEuler_any v0 (l) v1 (sumL (canL l.length) 1 (timesL d (-1))) w' h0 h1 hg'
        rw [hk2, q2] at h
        exact h
      have HL3 : Hid ((sumL (canL l.length) 1 (timesL d (-1))).length ≤ 1000) := by show _ ≤ _; rw [sumL_len]; exact HL2.out
      generalize sumL (canL l.length) 1 (timesL d (-1)) = s at *
      clear hk hk2 hp q0 q1 q2 q3 q4 q5 hl
      generalize timesL d (-1) = m at *
      generalize canL l.length = k at *
      generalize eulZ l d (-1) = X at *
      go_wp2_with fail
      refine Calls.mono (C1.out _ _ _ (Hf.out.below (by go_grown)) (Hd.out.below (by go_grown)) (HG.out.below (by go_grown))) ?_
      rintro e w2 ⟨rfl, hb2⟩
      have hB2 := belowTo (a := w1) (by go_grown) hb2
      replace Hf := Lib.hid (Hf.out.below hB2)
      replace Hd := Lib.hid (Hd.out.below hB2)
      replace HG := Lib.hid (HG.out.below hB2)
      replace HB := Lib.hid (belowTo HB.out hB2)
      clear hb2 hB2
      go_wp2_with fail
      refine Calls.mono (C2.out _ _ _ (Hf.out.below (by go_grown)) (Hd.out.below (by go_grown)) (HG.out.below (by go_grown))) ?_
      rintro e w3 ⟨rfl, hb3⟩
      have hB3 := belowTo (a := w2) (by go_grown) hb3
      replace Hf := Lib.hid (Hf.out.below hB3)
      replace Hd := Lib.hid (Hd.out.below hB3)
      replace HG := Lib.hid (HG.out.below hB3)
      replace HB := Lib.hid (belowTo HB.out hB3)
      clear hb3 hB3
      go_wp2_with fail
      refine Calls.mono (C3.out _ _ (Hf.out.below (by go_grown)) (HG.out.below (by go_grown))) ?_
      rintro e w4 ⟨v4, rfl, hI4, hb4⟩
      have hB4 := belowTo (a := w3) (by go_grown) hb4
      replace Hf := Lib.hid (Hf.out.below hB4)
      replace Hd := Lib.hid (Hd.out.below hB4)
      replace HG := Lib.hid (HG.out.below hB4)
      replace HB := Lib.hid (belowTo HB.out hB4)
      clear hb4 hB4
      have Hk := Lib.hid (Ints.reads hI4 (by have := HL2.out; omega))
      clear hI4
      go_wp2_with fail
      refine Calls.mono (C4.out _ _ _ (Hf.out.below (by go_grown)) (Hd.out.below (by go_grown)) (HG.out.below (by go_grown))) ?_
      rintro e w5 ⟨v5, rfl, hI5, hb5⟩
      have hB5 := belowTo (a := w4) (by go_grown) hb5
      replace Hf := Lib.hid (Hf.out.below hB5)
      replace Hd := Lib.hid (Hd.out.below hB5)
      replace Hk := Lib.hid (Hk.out.below hB5)
      replace HG := Lib.hid (HG.out.below hB5)
      replace HB := Lib.hid (belowTo HB.out hB5)
      clear hb5 hB5
      have Hm := Lib.hid (Ints.reads hI5 (by have := HL.out; omega))
      clear hI5
      go_wp2_with fail
      refine Calls.mono (C5.out _ _ _ _ (Hf.out.below (by go_grown)) (Hk.out.below (by go_grown)) (Hm.out.below (by go_grown)) (HG.out.below (by go_grown))) ?_
      rintro e w6 ⟨v6, rfl, hI6, hb6⟩
      have hB6 := belowTo (a := w5) (by go_grown) hb6
      replace Hf := Lib.hid (Hf.out.below hB6)
      replace Hd := Lib.hid (Hd.out.below hB6)
      replace Hk := Lib.hid (Hk.out.below hB6)
      replace Hm := Lib.hid (Hm.out.below hB6)
      replace HG := Lib.hid (HG.out.below hB6)
      replace HB := Lib.hid (belowTo HB.out hB6)
      clear hb6 hB6
      have Hs := Lib.hid (Ints.reads hI6 (by have := HL3.out; omega))
      clear hI6
      go_wp2_with fail
      refine Calls.mono (C6.out _ _ _ (Hf.out.below (by go_grown)) (Hs.out.below (by go_grown)) (HG.out.below (by go_grown))) ?_
      rintro e w7 ⟨rfl, hb7⟩
      have hB7 := belowTo (a := w6) (by go_grown) hb7
      replace Hf := Lib.hid (Hf.out.below hB7)
      replace Hd := Lib.hid (Hd.out.below hB7)
      replace Hk := Lib.hid (Hk.out.below hB7)
      replace Hm := Lib.hid (Hm.out.below hB7)
      replace Hs := Lib.hid (Hs.out.below hB7)
      replace HG := Lib.hid (HG.out.below hB7)
      replace HB := Lib.hid (belowTo HB.out hB7)
      clear hb7 hB7
      go_wp2_with (refine wpList_make_want _ (by rfl) _ _ 28 rfl w7.heap.size 3 i0 (.int .i64 0) 1 Tryz.underlying28 hi hz0 hz1 .i64 .i64 _ _ l.length rfl rfl rfl rfl ?c1 ?c2 ?c3 ?_)
      case c1 => rw [hz2]; omega
      case c2 => unfold maxLen; omega
      case c3 => first | exact Nat.le_refl _ | (simp; done)
      intro w8 hown hgrow
      have hB8 : Below w7.heap.size w7 w8 := (by go_grown : Below w7.heap.size w7 _).grown hgrow (Nat.le_refl _) (fun k e => by cases e)
      have Hz := Lib.hid (made_zeros (by omega) hown)
      clear hown hgrow
      replace Hf := Lib.hid (Hf.out.below hB8)
      replace Hd := Lib.hid (Hd.out.below hB8)
      replace Hk := Lib.hid (Hk.out.below hB8)
      replace Hm := Lib.hid (Hm.out.below hB8)
      replace Hs := Lib.hid (Hs.out.below hB8)
      replace HG := Lib.hid (HG.out.below hB8)
      replace HB := Lib.hid (belowTo HB.out hB8)
      clear hB8
      go_wp2_with fail
      refine Calls.mono (C7.out _ _ _ (Hf.out.below (by go_grown)) (Hz.out.below (by go_grown)) (HG.out.below (by go_grown))) ?_
      rintro e w9 ⟨rfl, hb9⟩
      have hB9 := belowTo (a := w8) (by go_grown) hb9
      replace Hf := Lib.hid (Hf.out.below hB9)
      replace Hd := Lib.hid (Hd.out.below hB9)
      replace Hk := Lib.hid (Hk.out.below hB9)
      replace Hm := Lib.hid (Hm.out.below hB9)
      replace Hs := Lib.hid (Hs.out.below hB9)
      replace Hz := Lib.hid (Hz.out.below hB9)
      replace HG := Lib.hid (HG.out.below hB9)
      replace HB := Lib.hid (belowTo HB.out hB9)
      clear hb9 hB9
      go_wp2
      go_returns
      exact ⟨rfl, HB.out⟩
end Go.Proofs.YtohojjoediibhaaGreatDoor
