/- FnSection: the walk. -/
import Derived.Test.YtohojjoediibhaaDoorUf
import Derived.Test.YtohojjoediibhaaDoorNe
import Derived.Test.YtohojjoediibhaaDoorSm
import Derived.Test.YtohojjoediibhaaDoorBq
import Derived.Test.YtohojjoediibhaaDoorBx
import Derived.Test.YtohojjoediibhaaDoorBp
import Derived.Test.YtohojjoediibhaaDoorB2
import Derived.Test.YtohojjoediibhaaDoorQh
namespace Go.Proofs.YtohojjoediibhaaDoor
open Go.RowKit

set_option maxRecDepth 100000 in
set_option maxHeartbeats 16000000 in
theorem fnSection_any (a : Option Addr) (len cap : Nat) (w : World) (h : Bytes w a len cap) (hg : EtOk w) :
    Calls Tryd.prog 10 #[.slice a len cap] w fun e w' => e = .returned (.bool true) ∧ Below w.heap.size w w' := by
  by_cases hlen : len ≤ 1048576
  case neg =>
    have j1 : (1048576 : Int) < (len : Int) := by omega
    clear h hg
    go_enter Tryd.func10, Tryd.ntmps10
    go_wp2
    go_returns
    exact ⟨rfl, by go_grown⟩
  case pos =>
  have j1 : (len : Int) ≤ 1048576 := by omega
  have HO := Lib.hid (drawSectionHas_any w a len cap h)
  clear h
  go_enter Tryd.func10, Tryd.ntmps10
  go_wp2_with fail
  refine Calls.mono HO.out ?_
  rintro e w1 ⟨v, u, l, d, x, y, rfl, hV, hI, h2, h20, hd, hxy, hxy2, hb1⟩
  have HG := Lib.hid (hg.below hb1)
  have Hf := Lib.hid hV
  have Hd := Lib.hid hI
  have HB : Hid (Below w.heap.size w w1) := hb1
  clear hb1 HO hg hV hI
  cases hk : (divB l d && (vecB x y && hasZ l d (x, y)))
  · have C1 : Hid (∀ (w' : World) (v0 : Value) (v1 : Value), ReadsVecs w' v0 (l) → ReadsInts w' v1 (d) → EtOk w' → Calls Tryd.prog 44 #[v0, v1, .agg #[.int .i64 (x), .int .i64 (y)]] w' (fun e w'' => e = .returned (.bool (false)) ∧ Below w'.heap.size w' w'')) := fun w' v0 v1 h0 h1 hg' => by
      have h := sectionHas_any v0 (l) v1 (d) x y w' h0 h1 hg'
      rw [hk] at h
      exact h
    have C2 : Hid (∀ (w' : World) (v0 : Value) (v1 : Value), ReadsVecs w' v0 (l) → ReadsInts w' v1 (d) → EtOk w' → Calls Tryd.prog 45 #[v0, v1, .agg #[.int .i64 (x), .int .i64 (y)]] w' (fun e w'' => e = .returned (.bool (false)) ∧ Below w'.heap.size w' w'')) := fun w' v0 v1 h0 h1 hg' => by
      have h := specSectionHas_any v0 (l) v1 (d) x y w' h0 h1
      rw [hk] at h
      exact h
    clear hk
    go_wp2_with fail
    refine Calls.mono (C1.out _ _ _ (Hf.out.below (by go_grown)) (Hd.out.below (by go_grown)) (HG.out.below (by go_grown))) ?_
    rintro e w2 ⟨rfl, hb2⟩
    have hB2 := belowTo (a := w1) (by go_grown) hb2
    replace Hf := Lib.hid (Hf.out.below hB2)
    replace Hd := Lib.hid (Hd.out.below hB2)
    have Hm : Hid (BoxAt w2 w1.heap.size [.int .i64 x, .int .i64 y]) := Lib.hid (BoxAt.below (BoxAt.made2 _ (.int .i64 x) (.int .i64 y) _) hb2)
    obtain ⟨mm0, mm1⟩ := Hm.out.two
    replace HG := Lib.hid (HG.out.below hB2)
    replace HB := Lib.hid (belowTo HB.out hB2)
    clear hb2 hB2
    go_wp2_with fail
    refine Calls.mono (C2.out _ _ _ (Hf.out.below (by go_grown)) (Hd.out.below (by go_grown)) (HG.out.below (by go_grown))) ?_
    rintro e w3 ⟨rfl, hb3⟩
    have hB3 := belowTo (a := w2) (by go_grown) hb3
    replace Hf := Lib.hid (Hf.out.below hB3)
    replace Hd := Lib.hid (Hd.out.below hB3)
    clear mm0 mm1
    replace Hm := Lib.hid (Hm.out.below hB3)
    obtain ⟨mm0, mm1⟩ := Hm.out.two
    replace HG := Lib.hid (HG.out.below hB3)
    replace HB := Lib.hid (belowTo HB.out hB3)
    clear hb3 hB3
    go_wp2
    go_returns
    exact ⟨rfl, by first | exact HB.out | (have hBx := HB.out; have hBs := hBx.size; go_grown)⟩
  · have C1 : Hid (∀ (w' : World) (v0 : Value) (v1 : Value), ReadsVecs w' v0 (l) → ReadsInts w' v1 (d) → EtOk w' → Calls Tryd.prog 44 #[v0, v1, .agg #[.int .i64 (x), .int .i64 (y)]] w' (fun e w'' => e = .returned (.bool (true)) ∧ Below w'.heap.size w' w'')) := fun w' v0 v1 h0 h1 hg' => by
      have h := sectionHas_any v0 (l) v1 (d) x y w' h0 h1 hg'
      rw [hk] at h
      exact h
    have C2 : Hid (∀ (w' : World) (v0 : Value) (v1 : Value), ReadsVecs w' v0 (l) → ReadsInts w' v1 (d) → EtOk w' → Calls Tryd.prog 45 #[v0, v1, .agg #[.int .i64 (x), .int .i64 (y)]] w' (fun e w'' => e = .returned (.bool (true)) ∧ Below w'.heap.size w' w'')) := fun w' v0 v1 h0 h1 hg' => by
      have h := specSectionHas_any v0 (l) v1 (d) x y w' h0 h1
      rw [hk] at h
      exact h
    rw [hxy, Bool.true_and, Bool.and_eq_true] at hk
    obtain ⟨q1, q2⟩ := hk
    have q3 := has_twice hd q2
    have hp : timDB l d 2 = divB l (timesL d 2) := by unfold timDB; rw [q1]; rfl
    have C4 : Hid (∀ (w' : World),  EtOk w' → Calls Tryd.prog 46 #[.agg #[.int .i64 (x), .int .i64 (y)], .int .i64 2] w' (fun e w'' => e = .returned (.tuple #[.agg #[.int .i64 (x * 2), .int .i64 (y * 2)], .bool true]) ∧ Below w'.heap.size w' w'')) := fun w'  hg' => by
      have h := vecTimes_any x y 2 w' hg'
      rw [show timesOk x y 2 = true by unfold timesOk; rw [hxy, hxy2]; rfl] at h
      exact h
    cases hk2 : divB l (timesL d 2)
    · have C3 : Hid (∀ (w' : World) (v0 : Value) (v1 : Value), ReadsVecs w' v0 (l) → ReadsInts w' v1 (d) → EtOk w' → Calls Tryd.prog 22 #[v0, v1, .int .i64 (2)] w' (GivesIntsOk w' ([]) (false))) := fun w' v0 v1 h0 h1 hg' => by
        have h := divisorTimes_any v0 (l) v1 (d) (2) w' h0 h1 hg'
        rw [hp, hk2] at h
        exact h
      clear q1 q2 q3 hp hk2 hxy hxy2
      go_wp2_with fail
      refine Calls.mono (C1.out _ _ _ (Hf.out.below (by go_grown)) (Hd.out.below (by go_grown)) (HG.out.below (by go_grown))) ?_
      rintro e w2 ⟨rfl, hb2⟩
      have hB2 := belowTo (a := w1) (by go_grown) hb2
      replace Hf := Lib.hid (Hf.out.below hB2)
      replace Hd := Lib.hid (Hd.out.below hB2)
      have Hm : Hid (BoxAt w2 w1.heap.size [.int .i64 x, .int .i64 y]) := Lib.hid (BoxAt.below (BoxAt.made2 _ (.int .i64 x) (.int .i64 y) _) hb2)
      obtain ⟨mm0, mm1⟩ := Hm.out.two
      replace HG := Lib.hid (HG.out.below hB2)
      replace HB := Lib.hid (belowTo HB.out hB2)
      clear hb2 hB2
      go_wp2_with fail
      refine Calls.mono (C2.out _ _ _ (Hf.out.below (by go_grown)) (Hd.out.below (by go_grown)) (HG.out.below (by go_grown))) ?_
      rintro e w3 ⟨rfl, hb3⟩
      have hB3 := belowTo (a := w2) (by go_grown) hb3
      replace Hf := Lib.hid (Hf.out.below hB3)
      replace Hd := Lib.hid (Hd.out.below hB3)
      clear mm0 mm1
      replace Hm := Lib.hid (Hm.out.below hB3)
      obtain ⟨mm0, mm1⟩ := Hm.out.two
      replace HG := Lib.hid (HG.out.below hB3)
      replace HB := Lib.hid (belowTo HB.out hB3)
      clear hb3 hB3
      go_wp2_with fail
      refine Calls.mono (C3.out _ _ _ (Hf.out.below (by go_grown)) (Hd.out.below (by go_grown)) (HG.out.below (by go_grown))) ?_
      rintro e w4 ⟨v4, rfl, hI4, hb4⟩
      have hB4 := belowTo (a := w3) (by go_grown) hb4
      replace Hf := Lib.hid (Hf.out.below hB4)
      replace Hd := Lib.hid (Hd.out.below hB4)
      clear mm0 mm1
      replace Hm := Lib.hid (Hm.out.below hB4)
      obtain ⟨mm0, mm1⟩ := Hm.out.two
      replace HG := Lib.hid (HG.out.below hB4)
      replace HB := Lib.hid (belowTo HB.out hB4)
      clear hb4 hB4
      have Hm := Lib.hid (Ints.reads hI4 (by simp))
      clear hI4
      go_wp2_with fail
      refine Calls.mono (C4.out _   (HG.out.below (by go_grown))) ?_
      rintro e w5 ⟨rfl, hb5⟩
      have hB5 := belowTo (a := w4) (by go_grown) hb5
      replace Hf := Lib.hid (Hf.out.below hB5)
      replace Hd := Lib.hid (Hd.out.below hB5)
      replace Hm := Lib.hid (Hm.out.below hB5)
      replace HG := Lib.hid (HG.out.below hB5)
      replace HB := Lib.hid (belowTo HB.out hB5)
      clear hb5 hB5
      go_wp2
      go_returns
      exact ⟨rfl, by first | exact HB.out | (have hBx := HB.out; have hBs := hBx.size; go_grown)⟩
    · have C3 : Hid (∀ (w' : World) (v0 : Value) (v1 : Value), ReadsVecs w' v0 (l) → ReadsInts w' v1 (d) → EtOk w' → Calls Tryd.prog 22 #[v0, v1, .int .i64 (2)] w' (GivesIntsOk w' (timesL d 2) (true))) := fun w' v0 v1 h0 h1 hg' => by
        have h := divisorTimes_any v0 (l) v1 (d) (2) w' h0 h1 hg'
        rw [hp, hk2] at h
        exact h
      have C5 : Hid (∀ (w' : World) (v0 : Value) (v1 : Value), ReadsVecs w' v0 (l) → ReadsInts w' v1 (timesL d 2) → EtOk w' → Calls Tryd.prog 44 #[v0, v1, .agg #[.int .i64 (x * 2), .int .i64 (y * 2)]] w' (fun e w'' => e = .returned (.bool (true)) ∧ Below w'.heap.size w' w'')) := fun w' v0 v1 h0 h1 hg' => by
        have h := sectionHas_any v0 (l) v1 (timesL d 2) (x * 2) (y * 2) w' h0 h1 hg'
        rw [hk2, hxy2, q3] at h
        exact h
      have HL : Hid ((timesL d 2).length ≤ 1000) := by show _ ≤ _; rw [timesL_len]; omega
      generalize timesL d 2 = m at *
      clear q1 q2 q3 hp hk2 hxy hxy2
      go_wp2_with fail
      refine Calls.mono (C1.out _ _ _ (Hf.out.below (by go_grown)) (Hd.out.below (by go_grown)) (HG.out.below (by go_grown))) ?_
      rintro e w2 ⟨rfl, hb2⟩
      have hB2 := belowTo (a := w1) (by go_grown) hb2
      replace Hf := Lib.hid (Hf.out.below hB2)
      replace Hd := Lib.hid (Hd.out.below hB2)
      have Hm : Hid (BoxAt w2 w1.heap.size [.int .i64 x, .int .i64 y]) := Lib.hid (BoxAt.below (BoxAt.made2 _ (.int .i64 x) (.int .i64 y) _) hb2)
      obtain ⟨mm0, mm1⟩ := Hm.out.two
      replace HG := Lib.hid (HG.out.below hB2)
      replace HB := Lib.hid (belowTo HB.out hB2)
      clear hb2 hB2
      go_wp2_with fail
      refine Calls.mono (C2.out _ _ _ (Hf.out.below (by go_grown)) (Hd.out.below (by go_grown)) (HG.out.below (by go_grown))) ?_
      rintro e w3 ⟨rfl, hb3⟩
      have hB3 := belowTo (a := w2) (by go_grown) hb3
      replace Hf := Lib.hid (Hf.out.below hB3)
      replace Hd := Lib.hid (Hd.out.below hB3)
      clear mm0 mm1
      replace Hm := Lib.hid (Hm.out.below hB3)
      obtain ⟨mm0, mm1⟩ := Hm.out.two
      replace HG := Lib.hid (HG.out.below hB3)
      replace HB := Lib.hid (belowTo HB.out hB3)
      clear hb3 hB3
      go_wp2_with fail
      refine Calls.mono (C3.out _ _ _ (Hf.out.below (by go_grown)) (Hd.out.below (by go_grown)) (HG.out.below (by go_grown))) ?_
      rintro e w4 ⟨v4, rfl, hI4, hb4⟩
      have hB4 := belowTo (a := w3) (by go_grown) hb4
      replace Hf := Lib.hid (Hf.out.below hB4)
      replace Hd := Lib.hid (Hd.out.below hB4)
      clear mm0 mm1
      replace Hm := Lib.hid (Hm.out.below hB4)
      obtain ⟨mm0, mm1⟩ := Hm.out.two
      replace HG := Lib.hid (HG.out.below hB4)
      replace HB := Lib.hid (belowTo HB.out hB4)
      clear hb4 hB4
      have Hm := Lib.hid (Ints.reads hI4 (by have := HL.out; omega))
      clear hI4
      go_wp2_with fail
      refine Calls.mono (C4.out _   (HG.out.below (by go_grown))) ?_
      rintro e w5 ⟨rfl, hb5⟩
      have hB5 := belowTo (a := w4) (by go_grown) hb5
      replace Hf := Lib.hid (Hf.out.below hB5)
      replace Hd := Lib.hid (Hd.out.below hB5)
      replace Hm := Lib.hid (Hm.out.below hB5)
      replace HG := Lib.hid (HG.out.below hB5)
      replace HB := Lib.hid (belowTo HB.out hB5)
      clear hb5 hB5
      go_wp2_with fail
      refine Calls.mono (C5.out _ _ _ (Hf.out.below (by go_grown)) (Hm.out.below (by go_grown)) (HG.out.below (by go_grown))) ?_
      rintro e w6 ⟨rfl, hb6⟩
      have hB6 := belowTo (a := w5) (by go_grown) hb6
      replace Hf := Lib.hid (Hf.out.below hB6)
      replace Hd := Lib.hid (Hd.out.below hB6)
      replace Hm := Lib.hid (Hm.out.below hB6)
      replace HG := Lib.hid (HG.out.below hB6)
      replace HB := Lib.hid (belowTo HB.out hB6)
      clear hb6 hB6
      go_wp2
      go_returns
      exact ⟨rfl, by first | exact HB.out | (have hBx := HB.out; have hBs := hBx.size; go_grown)⟩
end Go.Proofs.YtohojjoediibhaaDoor
