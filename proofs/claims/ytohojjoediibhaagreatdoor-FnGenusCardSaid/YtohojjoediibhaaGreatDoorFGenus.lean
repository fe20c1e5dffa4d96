/- FnGenus: the walk. -/
import Derived.Test.YtohojjoediibhaaGreatDoorUd
import Derived.Test.YtohojjoediibhaaGreatDoorNc
import Derived.Test.YtohojjoediibhaaGreatDoorSm
import Derived.Test.YtohojjoediibhaaGreatDoorQy
import Derived.Test.YtohojjoediibhaaGreatDoorQv
import Derived.Test.YtohojjoediibhaaGreatDoorQh
namespace Go.Proofs.YtohojjoediibhaaGreatDoor
open Go.RowKit

set_option maxRecDepth 100000 in
set_option maxHeartbeats 16000000 in
theorem fnGenus_any (a : Option Addr) (len cap : Nat) (w : World) (h : Bytes w a len cap) (hg : EtOk w) :
    Calls Tryz.prog 9 #[.slice a len cap] w fun e w' => e = .returned (.bool true) ∧ Below w.heap.size w w' := by
  by_cases hlen : len ≤ 1048576
  case neg =>
    have j1 : (1048576 : Int) < (len : Int) := by omega
    clear h hg
    go_enter Tryz.func9, Tryz.ntmps9
    go_wp2
    go_returns
    exact ⟨rfl, by go_grown⟩
  case pos =>
  have j1 : (len : Int) ≤ 1048576 := by omega
  have HO := Lib.hid (drawDivisorGenus_any w a len cap h)
  clear h
  go_enter Tryz.func9, Tryz.ntmps9
  go_wp2_with fail
  refine Calls.mono HO.out ?_
  rintro e w1 ⟨v, u, l, d, rfl, hV, hI, h2, h20, hd, hb1⟩
  have HG := Lib.hid (hg.below hb1)
  have Hf := Lib.hid hV
  have Hd := Lib.hid hI
  have HB : Hid (Below w.heap.size w w1) := hb1
  clear hb1 HO hg hV hI
  cases hk : divB l d
  · have C1 : Hid (∀ (w' : World) (v0 : Value) (v1 : Value), ReadsVecs w' v0 (l) → ReadsInts w' v1 (d) → EtOk w' → Calls Tryz.prog 34 #[v0, v1] w' (fun e w'' => e = .returned (.tuple #[.int .i64 (0), .bool (false)]) ∧ Below w'.heap.size w' w'')) := fun w' v0 v1 h0 h1 hg' => by
      have h := divisorGenus_any v0 (l) v1 (d) w' h0 h1 hg'
      rw [hk] at h
      exact h
    have C2 : Hid (∀ (w' : World) (v0 : Value) (v1 : Value), ReadsVecs w' v0 (l) → ReadsInts w' v1 (d) → EtOk w' → Calls Tryz.prog 35 #[v0, v1] w' (fun e w'' => e = .returned (.tuple #[.int .i64 (0), .bool (false)]) ∧ Below w'.heap.size w' w'')) := fun w' v0 v1 h0 h1 hg' => by
      have h := specDivisorGenus_any v0 (l) v1 (d) w' h0 h1
      rw [hk] at h
      exact h
    clear hk
    go_wp2_with fail
    refine Calls.mono (C1.out _ _ _ (Hf.out.below (by go_grown)) (Hd.out.below (by go_grown)) (HG.out.below (by go_grown))) ?_
    rintro e w2 ⟨rfl, hb2⟩
    have hB2 := belowTo (a := w1) (by go_grown) hb2
    replace Hf := Lib.hid (Hf.out.below hB2)
    replace Hd := Lib.hid (Hd.out.below hB2)
    replace HG := Lib.hid (HG.out.below hB2)
    replace HB := Lib.hid (belowTo HB.out hB2)
    clear hb2 hB2
    go_wp2_with fail
    refine Calls.mono (C2.out _ _ _ (Hf.out.below (by go_grown)) (Hd.out.below (by go_grown)) (HG.out.below (by go_grown))) ?_
    rintro e w3 ⟨rfl, hb3⟩
    have hB3 := belowTo (a := w2) (by go_grown) hb3
    replace Hf := Lib.hid (Hf.out.below hB3)
    replace Hd := Lib.hid (Hd.out.below hB3)
    replace HG := Lib.hid (HG.out.below hB3)
    replace HB := Lib.hid (belowTo HB.out hB3)
    clear hb3 hB3
    go_wp2
    go_returns
    exact ⟨rfl, HB.out⟩
  · have C1 : Hid (∀ (w' : World) (v0 : Value) (v1 : Value), ReadsVecs w' v0 (l) → ReadsInts w' v1 (d) → EtOk w' → Calls Tryz.prog 34 #[v0, v1] w' (fun e w'' => e = .returned (.tuple #[.int .i64 (eulZ l d 1), .bool (true)]) ∧ Below w'.heap.size w' w'')) := fun w' v0 v1 h0 h1 hg' => by
      have h := divisorGenus_any v0 (l) v1 (d) w' h0 h1 hg'
      rw [hk] at h
      exact h
    have C2 : Hid (∀ (w' : World) (v0 : Value) (v1 : Value), ReadsVecs w' v0 (l) → ReadsInts w' v1 (d) → EtOk w' → Calls Tryz.prog 35 #[v0, v1] w' (fun e w'' => e = .returned (.tuple #[.int .i64 (eulZ l d 1), .bool (true)]) ∧ Below w'.heap.size w' w'')) := fun w' v0 v1 h0 h1 hg' => by
      have h := specDivisorGenus_any v0 (l) v1 (d) w' h0 h1
      rw [hk] at h
      exact h
    have hl := (div_in hk).2.1
    have q1 := tim_minus hk
    have q2 := div_minus hk
    have q3 := eul_genus (l := l) (d := d) (by have := (div_len hk).1; omega) hl
    have C3 : Hid (∀ (w' : World) (v0 : Value) (v1 : Value), ReadsVecs w' v0 (l) → ReadsInts w' v1 (d) → EtOk w' → Calls Tryz.prog 31 #[v0, v1, .int .i64 (-1)] w' (GivesIntsOk w' (timesL d (-1)) (true))) := fun w' v0 v1 h0 h1 hg' => by
      have h := divisorTimes_any v0 (l) v1 (d) (-1) w' h0 h1 hg'
      rw [q1] at h
      exact h
    have C4 : Hid (∀ (w' : World) (v0 : Value) (v1 : Value), ReadsVecs w' v0 (l) → ReadsInts w' v1 (timesL d (-1)) → EtOk w' → Calls Tryz.prog 29 #[v0, v1] w' (fun e w'' => e = .returned (.tuple #[.int .i64 (eulZ l d 1), .bool (true)]) ∧ Below w'.heap.size w' w'')) := fun w' v0 v1 h0 h1 hg' => by
      have h := divisorEuler_any v0 (l) v1 (timesL d (-1)) w' h0 h1 hg'
      rw [q2, q3] at h
      exact h
    have HL : Hid ((timesL d (-1)).length ≤ 1000) := by show _ ≤ _; rw [timesL_len]; omega
    generalize timesL d (-1) = m at *
    generalize eulZ l d 1 = X at *
    clear hk q1 q2 q3 hl
    go_wp2_with fail
    refine Calls.mono (C1.out _ _ _ (Hf.out.below (by go_grown)) (Hd.out.below (by go_grown)) (HG.out.below (by go_grown))) ?_
    rintro e w2 ⟨rfl, hb2⟩
    have hB2 := belowTo (a := w1) (by go_grown) hb2
    replace Hf := Lib.hid (Hf.out.below hB2)
    replace Hd := Lib.hid (Hd.out.below hB2)
    replace HG := Lib.hid (HG.out.below hB2)
    replace HB := Lib.hid (belowTo HB.out hB2)
    clear hb2 hB2
    go_wp2_with fail
    refine Calls.mono (C2.out _ _ _ (Hf.out.below (by go_grown)) (Hd.out.below (by go_grown)) (HG.out.below (by go_grown))) ?_
    rintro e w3 ⟨rfl, hb3⟩
    have hB3 := belowTo (a := w2) (by go_grown) hb3
    replace Hf := Lib.hid (Hf.out.below hB3)
    replace Hd := Lib.hid (Hd.out.below hB3)
    replace HG := Lib.hid (HG.out.below hB3)
    replace HB := Lib.hid (belowTo HB.out hB3)
    clear hb3 hB3
    go_wp2_with fail
    refine Calls.mono (C3.out _ _ _ (Hf.out.below (by go_grown)) (Hd.out.below (by go_grown)) (HG.out.below (by go_grown))) ?_
    rintro e w4 ⟨v4, rfl, hI4, hb4⟩
    have hB4 := belowTo (a := w3) (by go_grown) hb4
    replace Hf := Lib.hid (Hf.out.below hB4)
    replace Hd := Lib.hid (Hd.out.below hB4)
    replace HG := Lib.hid (HG.out.below hB4)
    replace HB := Lib.hid (belowTo HB.out hB4)
    clear hb4 hB4
    have Hm := Lib.hid (Ints.reads hI4 (by have := HL.out; omega))
    clear hI4
    go_wp2_with fail
    refine Calls.mono (C4.out _ _ _ (Hf.out.below (by go_grown)) (Hm.out.below (by go_grown)) (HG.out.below (by go_grown))) ?_
    rintro e w5 ⟨rfl, hb5⟩
    have hB5 := belowTo (a := w4) (by go_grown) hb5
    replace Hf := Lib.hid (Hf.out.below hB5)
    replace Hd := Lib.hid (Hd.out.below hB5)
    replace Hm := Lib.hid (Hm.out.below hB5)
    replace HG := Lib.hid (HG.out.below hB5)
    replace HB := Lib.hid (belowTo HB.out hB5)
    clear hb5 hB5
    go_wp2
    go_returns
    exact ⟨rfl, HB.out⟩
end Go.Proofs.YtohojjoediibhaaGreatDoor
