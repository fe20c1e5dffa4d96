/- FnDivisor: the walk. -/
import Derived.Test.YtohojjoediibhaaDoorUd
import Derived.Test.YtohojjoediibhaaDoorNc
import Derived.Test.YtohojjoediibhaaDoorSm
import Derived.Test.YtohojjoediibhaaDoorSn
import Derived.Test.YtohojjoediibhaaDoorBe
import Derived.Test.YtohojjoediibhaaDoorBf
import Derived.Test.YtohojjoediibhaaDoorQh
namespace Go.Proofs.YtohojjoediibhaaDoor
open Go.RowKit

set_option maxRecDepth 100000 in
set_option maxHeartbeats 16000000 in
theorem fnDivisor_any (a : Option Addr) (len cap : Nat) (w : World) (h : Bytes w a len cap) (hg : EtOk w) :
    Calls Tryd.prog 3 #[.slice a len cap] w fun e w' => e = .returned (.bool true) ∧ Below w.heap.size w w' := by
  by_cases hlen : len ≤ 1048576
  case neg =>
    have j1 : (1048576 : Int) < (len : Int) := by omega
    clear h hg
    go_enter Tryd.func3, Tryd.ntmps3
    go_wp2
    go_returns
    exact ⟨rfl, by go_grown⟩
  case pos =>
  have j1 : (len : Int) ≤ 1048576 := by omega
  have HO := Lib.hid (drawDivisorIn_any w a len cap h)
  clear h
  go_enter Tryd.func3, Tryd.ntmps3
  go_wp2_with fail
  refine Calls.mono HO.out ?_
  rintro e w1 ⟨v, u, l, d, rfl, hV, hI, h2, h20, hd, hb1⟩
  have HG := Lib.hid (hg.below hb1)
  have Hf := Lib.hid hV
  have Hd := Lib.hid hI
  have HB : Hid (Below w.heap.size w w1) := hb1
  clear hb1 HO hg hV hI
  obtain ⟨va, vc, rfl, _⟩ := Hf.out
  obtain ⟨i0, hi, hz0, hz1, hz2⟩ := info_parts infoInt
  cases hk : divB l d
  · have C1 : Hid (∀ (w' : World) (v0 : Value) (v1 : Value), ReadsVecs w' v0 (l) → ReadsInts w' v1 (d) → EtOk w' → Calls Tryd.prog 20 #[v0, v1] w' (fun e w'' => e = .returned (.bool (false)) ∧ Below w'.heap.size w' w'')) := fun w' v0 v1 h0 h1 hg' => by
      have h := divisorIn_any v0 (l) v1 (d) w' h0 h1 hg'
      rw [hk] at h
      exact h
    have C2 : Hid (∀ (w' : World) (v0 : Value) (v1 : Value), ReadsVecs w' v0 (l) → ReadsInts w' v1 (d) → EtOk w' → Calls Tryd.prog 21 #[v0, v1] w' (fun e w'' => e = .returned (.bool (false)) ∧ Below w'.heap.size w' w'')) := fun w' v0 v1 h0 h1 hg' => by
      have h := specDivisorIn_any v0 (l) v1 (d) w' h0 h1
      rw [hk] at h
      exact h
    clear hk
    go_wp2_with fail
    refine Calls.mono (C1.out _ _ _ (Hf.out.below (by go_grown)) (Hd.out.below (by go_grown)) (HG.out.below (by go_grown))) ?_
    rintro e w2 ⟨rfl, hb2⟩
    have hB2 := belowTo (a := w1) (by go_grown) hb2
    replace Hf := Lib.hid (Hf.out.below hB2)
    replace Hd := Lib.hid (Hd.out.below hB2)
    replace HG := Lib.hid (HG.out.below hB2)
    replace HB := Lib.hid (belowTo HB.out hB2)
    clear hb2 hB2
    go_wp2_with fail
    refine Calls.mono (C2.out _ _ _ (Hf.out.below (by go_grown)) (Hd.out.below (by go_grown)) (HG.out.below (by go_grown))) ?_
    rintro e w3 ⟨rfl, hb3⟩
    have hB3 := belowTo (a := w2) (by go_grown) hb3
    replace Hf := Lib.hid (Hf.out.below hB3)
    replace Hd := Lib.hid (Hd.out.below hB3)
    replace HG := Lib.hid (HG.out.below hB3)
    replace HB := Lib.hid (belowTo HB.out hB3)
    clear hb3 hB3
    go_wp2
    go_returns
    exact ⟨rfl, HB.out⟩
  · have C1 : Hid (∀ (w' : World) (v0 : Value) (v1 : Value), ReadsVecs w' v0 (l) → ReadsInts w' v1 (d) → EtOk w' → Calls Tryd.prog 20 #[v0, v1] w' (fun e w'' => e = .returned (.bool (true)) ∧ Below w'.heap.size w' w'')) := fun w' v0 v1 h0 h1 hg' => by
      have h := divisorIn_any v0 (l) v1 (d) w' h0 h1 hg'
      rw [hk] at h
      exact h
    have C2 : Hid (∀ (w' : World) (v0 : Value) (v1 : Value), ReadsVecs w' v0 (l) → ReadsInts w' v1 (d) → EtOk w' → Calls Tryd.prog 21 #[v0, v1] w' (fun e w'' => e = .returned (.bool (true)) ∧ Below w'.heap.size w' w'')) := fun w' v0 v1 h0 h1 hg' => by
      have h := specDivisorIn_any v0 (l) v1 (d) w' h0 h1
      rw [hk] at h
      exact h
    have hl := (div_in hk).2.1
    have q1 := tim_minus hk
    have q2 := add_minus hk
    have q3 := minus_self d
    rw [hl] at q3
    have C3 : Hid (∀ (w' : World) (v0 : Value) (v1 : Value), ReadsVecs w' v0 (l) → ReadsInts w' v1 (d) → EtOk w' → Calls Tryd.prog 22 #[v0, v1, .int .i64 (-1)] w' (GivesIntsOk w' (timesL d (-1)) (true))) := fun w' v0 v1 h0 h1 hg' => by
      have h := divisorTimes_any v0 (l) v1 (d) (-1) w' h0 h1 hg'
      rw [q1] at h
      exact h
    have C4 : Hid (∀ (w' : World) (v0 : Value) (v1 : Value) (v2 : Value), ReadsVecs w' v0 (l) → ReadsInts w' v1 (d) → ReadsInts w' v2 (timesL d (-1)) → EtOk w' → Calls Tryd.prog 23 #[v0, v1, v2] w' (GivesIntsOk w' (List.replicate l.length 0) (true))) := fun w' v0 v1 v2 h0 h1 h2 hg' => by
      have h := divisorAdd_any v0 (l) v1 (d) v2 (timesL d (-1)) w' h0 h1 h2 hg'
      rw [q2, q3] at h
      exact h
    have HL : Hid ((timesL d (-1)).length ≤ 1000) := by show _ ≤ _; rw [timesL_len]; omega
    generalize timesL d (-1) = m at *
    clear hk q1 q2 q3 hl
    go_wp2_with fail
    refine Calls.mono (C1.out _ _ _ (Hf.out.below (by go_grown)) (Hd.out.below (by go_grown)) (HG.out.below (by go_grown))) ?_
    rintro e w2 ⟨rfl, hb2⟩
    have hB2 := belowTo (a := w1) (by go_grown) hb2
    replace Hf := Lib.hid (Hf.out.below hB2)
    replace Hd := Lib.hid (Hd.out.below hB2)
    replace HG := Lib.hid (HG.out.below hB2)
    replace HB := Lib.hid (belowTo HB.out hB2)
    clear hb2 hB2
    go_wp2_with fail
    refine Calls.mono (C2.out _ _ _ (Hf.out.below (by go_grown)) (Hd.out.below (by go_grown)) (HG.out.below (by go_grown))) ?_
    rintro e w3 ⟨rfl, hb3⟩
    have hB3 := belowTo (a := w2) (by go_grown) hb3
    replace Hf := Lib.hid (Hf.out.below hB3)
    replace Hd := Lib.hid (Hd.out.below hB3)
    replace HG := Lib.hid (HG.out.below hB3)
    replace HB := Lib.hid (belowTo HB.out hB3)
    clear hb3 hB3
    go_wp2_with fail
    refine Calls.mono (C3.out _ _ _ (Hf.out.below (by go_grown)) (Hd.out.below (by go_grown)) (HG.out.below (by go_grown))) ?_
    rintro e w4 ⟨v4, rfl, hI4, hb4⟩
    have hB4 := belowTo (a := w3) (by go_grown) hb4
    replace Hf := Lib.hid (Hf.out.below hB4)
    replace Hd := Lib.hid (Hd.out.below hB4)
    replace HG := Lib.hid (HG.out.below hB4)
    replace HB := Lib.hid (belowTo HB.out hB4)
    clear hb4 hB4
    have Hm := Lib.hid (Ints.reads hI4 (by have := HL.out; omega))
    clear hI4
    go_wp2_with fail
    refine Calls.mono (C4.out _ _ _ _ (Hf.out.below (by go_grown)) (Hd.out.below (by go_grown)) (Hm.out.below (by go_grown)) (HG.out.below (by go_grown))) ?_
    rintro e w5 ⟨v5, rfl, hI5, hb5⟩
    have hB5 := belowTo (a := w4) (by go_grown) hb5
    replace Hf := Lib.hid (Hf.out.below hB5)
    replace Hd := Lib.hid (Hd.out.below hB5)
    replace Hm := Lib.hid (Hm.out.below hB5)
    replace HG := Lib.hid (HG.out.below hB5)
    replace HB := Lib.hid (belowTo HB.out hB5)
    clear hb5 hB5
    have Hx := Lib.hid (Ints.reads hI5 (by simp; omega))
    clear hI5
    go_wp2_with (refine wpList_make_want _ (by rfl) _ _ 24 rfl w5.heap.size 3 i0 (.int .i64 0) 1 Tryd.underlying24 hi hz0 hz1 .i64 .i64 _ _ l.length rfl rfl rfl rfl ?c1 ?c2 ?c3 ?_)
    case c1 => rw [hz2]; omega
    case c2 => unfold maxLen; omega
    case c3 => first | exact Nat.le_refl _ | (simp; done)
    intro w6 hown hgrow
    have hB6 : Below w5.heap.size w5 w6 := (by go_grown : Below w5.heap.size w5 _).grown hgrow (Nat.le_refl _) (fun k e => by cases e)
    have Hz := Lib.hid (made_zeros (by omega) hown)
    clear hown hgrow
    replace Hf := Lib.hid (Hf.out.below hB6)
    replace Hd := Lib.hid (Hd.out.below hB6)
    replace Hm := Lib.hid (Hm.out.below hB6)
    replace Hx := Lib.hid (Hx.out.below hB6)
    replace HG := Lib.hid (HG.out.below hB6)
    replace HB := Lib.hid (belowTo HB.out hB6)
    clear hB6
    go_wp2_with fail
    refine Calls.mono (sameInts_eq _ _ _ _ (Hx.out.below (by go_grown)) (Hz.out.below (by go_grown))) ?_
    rintro e w7 ⟨rfl, hb7⟩
    have hB7 := belowTo (a := w6) (by go_grown) hb7
    replace Hf := Lib.hid (Hf.out.below hB7)
    replace Hd := Lib.hid (Hd.out.below hB7)
    replace Hm := Lib.hid (Hm.out.below hB7)
    replace Hx := Lib.hid (Hx.out.below hB7)
    replace Hz := Lib.hid (Hz.out.below hB7)
    replace HG := Lib.hid (HG.out.below hB7)
    replace HB := Lib.hid (belowTo HB.out hB7)
    clear hb7 hB7
    go_wp2
    go_returns
    exact ⟨rfl, HB.out⟩
end Go.Proofs.YtohojjoediibhaaDoor
