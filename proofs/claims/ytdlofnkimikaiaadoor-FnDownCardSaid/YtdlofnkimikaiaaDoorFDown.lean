/- FnDown: the walk. -/
import Derived.Test.YtdlofnkimikaiaaDoorUm
import Derived.Test.YtdlofnkimikaiaaDoorOb
import Derived.Test.YtdlofnkimikaiaaDoorSm
import Derived.Test.YtdlofnkimikaiaaDoorB9
import Derived.Test.YtdlofnkimikaiaaDoorHd
import Derived.Test.YtdlofnkimikaiaaDoorBb
namespace Go.Proofs.YtdlofnkimikaiaaDoor
open Go.RowKit

set_option maxRecDepth 100000 in
set_option maxHeartbeats 16000000 in
theorem fnDown_any (a : Option Addr) (len cap : Nat) (w : World) (h : Bytes w a len cap) (hg : EtOk w) :
    Calls Tryd.prog 9 #[.slice a len cap] w fun e w' => e = .returned (.bool true) ∧ Below w.heap.size w w' := by
  by_cases hlen : len ≤ 1048576
  case neg =>
    have j1 : (1048576 : Int) < (len : Int) := by omega
    clear h hg
    go_enter Tryd.func9, Tryd.ntmps9
    go_wp2
    go_returns
    exact ⟨rfl, by go_grown⟩
  case pos =>
  have j1 : (len : Int) ≤ 1048576 := by omega
  have HO := Lib.hid (drawFanDown_any w a len cap h)
  clear h
  go_enter Tryd.func9, Tryd.ntmps9
  go_wp2_with fail
  refine Calls.mono HO.out ?_
  rintro e w1 ⟨v, l, i, rfl, hV, h2, h20, hb1⟩
  have HG := Lib.hid (hg.below hb1)
  have Hf := Lib.hid hV
  have HB : Hid (Below w.heap.size w w1) := hb1
  clear hb1 HO hg hV
  cases hk : (smoothB l && (idxB l i && downB l i.toNat))
  · have C1 : Hid (∀ (w' : World) (v0 : Value), ReadsVecs w' v0 (l) → EtOk w' → Calls Tryd.prog 40 #[v0, .int .i64 (i)] w' (GivesVecsOk w' ([]) (false))) := fun w' v0 h0 hg' => by
      have h := fanDown_any v0 l (i) w' h0 hg'
      rw [hk] at h
      exact h
    have C2 : Hid (∀ (w' : World) (v0 : Value), ReadsVecs w' v0 (l) → EtOk w' → Calls Tryd.prog 41 #[v0, .int .i64 (i)] w' (GivesVecsOk w' ([]) (false))) := fun w' v0 h0 hg' => by
      have h := specFanDown_any v0 l (i) w' h0
      rw [hk] at h
      exact h
    clear hk
    go_wp2_with fail
    refine Calls.mono (C1.out _ _ (Hf.out.below (by go_grown)) (HG.out.below (by go_grown))) ?_
    rintro e w2 ⟨v2, rfl, hI2, hb2⟩
    have hB2 := belowTo (a := w1) (by go_grown) hb2
    replace Hf := Lib.hid (Hf.out.below hB2)
    replace HG := Lib.hid (HG.out.below hB2)
    replace HB := Lib.hid (belowTo HB.out hB2)
    clear hb2 hB2
    have Ho1 := Lib.hid (Vecs.reads hI2 (by simp))
    clear hI2
    go_wp2_with fail
    refine Calls.mono (C2.out _ _ (Hf.out.below (by go_grown)) (HG.out.below (by go_grown))) ?_
    rintro e w3 ⟨v3, rfl, hI3, hb3⟩
    have hB3 := belowTo (a := w2) (by go_grown) hb3
    replace Hf := Lib.hid (Hf.out.below hB3)
    replace Ho1 := Lib.hid (Ho1.out.below hB3)
    replace HG := Lib.hid (HG.out.below hB3)
    replace HB := Lib.hid (belowTo HB.out hB3)
    clear hb3 hB3
    have Ho2 := Lib.hid (Vecs.reads hI3 (by simp))
    clear hI3
    go_wp2_with fail
    refine Calls.mono (sameVecs_eq _ _ _ _ (Ho1.out.below (by go_grown)) (Ho2.out.below (by go_grown))) ?_
    rintro e w4 ⟨rfl, hb4⟩
    have hB4 := belowTo (a := w3) (by go_grown) hb4
    replace Hf := Lib.hid (Hf.out.below hB4)
    replace Ho1 := Lib.hid (Ho1.out.below hB4)
    replace Ho2 := Lib.hid (Ho2.out.below hB4)
    replace HG := Lib.hid (HG.out.below hB4)
    replace HB := Lib.hid (belowTo HB.out hB4)
    clear hb4 hB4
    go_wp2_with fail
    refine Calls.mono (sameVecs_eq _ _ _ _ (Ho1.out.below (by go_grown)) (Ho2.out.below (by go_grown))) ?_
    rintro e w5 ⟨rfl, hb5⟩
    have hB5 := belowTo (a := w4) (by go_grown) hb5
    replace Hf := Lib.hid (Hf.out.below hB5)
    replace Ho1 := Lib.hid (Ho1.out.below hB5)
    replace Ho2 := Lib.hid (Ho2.out.below hB5)
    replace HG := Lib.hid (HG.out.below hB5)
    replace HB := Lib.hid (belowTo HB.out hB5)
    clear hb5 hB5
    go_wp2
    go_returns
    exact ⟨rfl, HB.out⟩
  · have C1 : Hid (∀ (w' : World) (v0 : Value), ReadsVecs w' v0 (l) → EtOk w' → Calls Tryd.prog 40 #[v0, .int .i64 (i)] w' (GivesVecsOk w' (downL l i.toNat) (true))) := fun w' v0 h0 hg' => by
      have h := fanDown_any v0 l (i) w' h0 hg'
      rw [hk] at h
      exact h
    have C2 : Hid (∀ (w' : World) (v0 : Value), ReadsVecs w' v0 (l) → EtOk w' → Calls Tryd.prog 41 #[v0, .int .i64 (i)] w' (GivesVecsOk w' (downL l i.toNat) (true))) := fun w' v0 h0 hg' => by
      have h := specFanDown_any v0 l (i) w' h0
      rw [hk] at h
      exact h
    rw [Bool.and_eq_true, Bool.and_eq_true] at hk
    obtain ⟨q0, q1, q2⟩ := hk
    obtain ⟨m, hm, hlt⟩ := idx_in q1
    subst hm
    rw [Int.toNat_natCast] at C1 C2 q2
    have q3 := smooth_downF q0 hlt q2
    obtain ⟨q4, R, q5, q6, q7, q8⟩ := downF_back q0 hlt q2
    have q9 := downL_len hlt
    have hf := (smooth_in q0).1
    have q10 := (down_in q2).1
    have q11 := upI_lt hlt q2
    have q12 : (upI l.length m : Int).toNat = upI l.length m := Int.toNat_natCast _
    have C3 : Hid (∀ (w' : World) (v0 : Value), ReadsVecs w' v0 (downL l m) → EtOk w' → Calls Tryd.prog 42 #[v0, .int .i64 ((upI l.length m : Int))] w' (GivesVecsOk w' (R) (true))) := fun w' v0 h0 hg' => by
      have h := fanBlow_any v0 (downL l m) ((upI l.length m : Int)) w' h0 hg'
      rw [q3, q4, q12, q5] at h
      exact h
    have C4 : Hid (∀ (w' : World) (v0 : Value), ReadsVecs w' v0 (R) → EtOk w' → Calls Tryd.prog 16 #[v0] w' (GivesVecsOk w' (tidyL l) (true))) := fun w' v0 h0 hg' => by
      have h := fanTidy_any v0 (R) w' h0 hg'
      rw [q7, q8] at h
      exact h
    have C5 : Hid (∀ (w' : World) (v0 : Value), ReadsVecs w' v0 (l) → EtOk w' → Calls Tryd.prog 16 #[v0] w' (GivesVecsOk w' (tidyL l) (true))) := fun w' v0 h0 hg' => by
      have h := fanTidy_any v0 (l) w' h0 hg'
      rw [hf] at h
      exact h
    have C6 : Hid (∀ (w' : World) (v0 : Value), ReadsVecs w' v0 (downL l m) → EtOk w' → Calls Tryd.prog 25 #[v0] w' (fun e w'' => e = .returned (.bool (true)) ∧ Below w'.heap.size w' w'')) := fun w' v0 h0 hg' => by
      have h := fanSmooth_any v0 (downL l m) w' h0 hg'
      rw [q3] at h
      exact h
    have HL : Hid ((downL l m).length ≤ 1000 ∧ R.length ≤ 1000 ∧ (tidyL l).length ≤ 1000) := ⟨by omega, by omega, by rw [tidyL_len]; omega⟩
    have qu : IntKind.i64.wrap ((l.length : Int) - 1) = ((l.length - 1 : Nat) : Int) := by rw [IntKind.wrap_i64]; omega
    have qi : Int.tmod ((m : Int) + (l.length : Int) - 2) (((l.length - 1 : Nat) : Int)) = (upI l.length m : Int) := by unfold upI; rw [show (m : Int) + (l.length : Int) - 2 = ((m + l.length - 2 : Nat) : Int) by omega]; exact (Int.ofNat_tmod _ _).symm
    have qj : ((m : Int) + (l.length : Int) - 2) % (((l.length - 1 : Nat) : Int)) = (upI l.length m : Int) := by unfold upI; rw [show (m : Int) + (l.length : Int) - 2 = ((m + l.length - 2 : Nat) : Int) by omega]; exact (Int.natCast_emod _ _).symm
    have hmn : (m : Int) + (l.length : Int) ≤ 40 := by omega
    have hn1 : (0 : Int) < ((l.length - 1 : Nat) : Int) := by omega
    have hn2 : ¬ ((l.length - 1 : Nat) : Int) = 0 := by omega
    have HQ := Lib.hid q9
    generalize upI l.length m = u at *
    generalize downL l m = s at *
    generalize tidyL l = t at *
    clear q0 q1 q2 q3 q4 q5 q6 q7 q8 q9 q11 q12 hf
    obtain ⟨va, vc, rfl, _⟩ := Hf.out
    go_wp2_with fail
    refine Calls.mono (C1.out _ _ (Hf.out.below (by go_grown)) (HG.out.below (by go_grown))) ?_
    rintro e w2 ⟨v2, rfl, hI2, hb2⟩
    have hB2 := belowTo (a := w1) (by go_grown) hb2
    replace Hf := Lib.hid (Hf.out.below hB2)
    replace HG := Lib.hid (HG.out.below hB2)
    replace HB := Lib.hid (belowTo HB.out hB2)
    clear hb2 hB2
    have Ho := Lib.hid (Vecs.reads hI2 (by have := HL.out; omega))
    clear hI2
    go_wp2_with fail
    refine Calls.mono (C2.out _ _ (Hf.out.below (by go_grown)) (HG.out.below (by go_grown))) ?_
    rintro e w3 ⟨v3, rfl, hI3, hb3⟩
    have hB3 := belowTo (a := w2) (by go_grown) hb3
    replace Hf := Lib.hid (Hf.out.below hB3)
    replace Ho := Lib.hid (Ho.out.below hB3)
    replace HG := Lib.hid (HG.out.below hB3)
    replace HB := Lib.hid (belowTo HB.out hB3)
    clear hb3 hB3
    have Ho2 := Lib.hid (Vecs.reads hI3 (by have := HL.out; omega))
    clear hI3
    go_wp2_with fail
    refine Calls.mono (sameVecs_eq _ _ _ _ (Ho.out.below (by go_grown)) (Ho2.out.below (by go_grown))) ?_
    rintro e w4 ⟨rfl, hb4⟩
    have hB4 := belowTo (a := w3) (by go_grown) hb4
    replace Hf := Lib.hid (Hf.out.below hB4)
    replace Ho := Lib.hid (Ho.out.below hB4)
    replace Ho2 := Lib.hid (Ho2.out.below hB4)
    replace HG := Lib.hid (HG.out.below hB4)
    replace HB := Lib.hid (belowTo HB.out hB4)
    clear hb4 hB4
    clear Ho2
    obtain ⟨oa, oc, rfl, -⟩ := Ho.out
    go_wp2_with fail
    refine Calls.mono (C3.out _ _ (Ho.out.below (by go_grown)) (HG.out.below (by go_grown))) ?_
    rintro e w5 ⟨v5, rfl, hI5, hb5⟩
    have hB5 := belowTo (a := w4) (by go_grown) hb5
    replace Hf := Lib.hid (Hf.out.below hB5)
    replace Ho := Lib.hid (Ho.out.below hB5)
    replace HG := Lib.hid (HG.out.below hB5)
    replace HB := Lib.hid (belowTo HB.out hB5)
    clear hb5 hB5
    have Hx := Lib.hid (Vecs.reads hI5 (by have := HL.out; omega))
    clear hI5
    go_wp2_with fail
    refine Calls.mono (C4.out _ _ (Hx.out.below (by go_grown)) (HG.out.below (by go_grown))) ?_
    rintro e w6 ⟨v6, rfl, hI6, hb6⟩
    have hB6 := belowTo (a := w5) (by go_grown) hb6
    replace Hf := Lib.hid (Hf.out.below hB6)
    replace Ho := Lib.hid (Ho.out.below hB6)
    replace Hx := Lib.hid (Hx.out.below hB6)
    replace HG := Lib.hid (HG.out.below hB6)
    replace HB := Lib.hid (belowTo HB.out hB6)
    clear hb6 hB6
    have Ha := Lib.hid (Vecs.reads hI6 (by have := HL.out; omega))
    clear hI6
    go_wp2_with fail
    refine Calls.mono (C5.out _ _ (Hf.out.below (by go_grown)) (HG.out.below (by go_grown))) ?_
    rintro e w7 ⟨v7, rfl, hI7, hb7⟩
    have hB7 := belowTo (a := w6) (by go_grown) hb7
    replace Hf := Lib.hid (Hf.out.below hB7)
    replace Ho := Lib.hid (Ho.out.below hB7)
    replace Hx := Lib.hid (Hx.out.below hB7)
    replace Ha := Lib.hid (Ha.out.below hB7)
    replace HG := Lib.hid (HG.out.below hB7)
    replace HB := Lib.hid (belowTo HB.out hB7)
    clear hb7 hB7
    have Hb := Lib.hid (Vecs.reads hI7 (by have := HL.out; omega))
    clear hI7
    go_wp2_with fail
    refine Calls.mono (C6.out _ _ (Ho.out.below (by go_grown)) (HG.out.below (by go_grown))) ?_
    rintro e w8 ⟨rfl, hb8⟩
    have hB8 := belowTo (a := w7) (by go_grown) hb8
    replace Hf := Lib.hid (Hf.out.below hB8)
    replace Ho := Lib.hid (Ho.out.below hB8)
    replace Hx := Lib.hid (Hx.out.below hB8)
    replace Ha := Lib.hid (Ha.out.below hB8)
    replace Hb := Lib.hid (Hb.out.below hB8)
    replace HG := Lib.hid (HG.out.below hB8)
    replace HB := Lib.hid (belowTo HB.out hB8)
    clear hb8 hB8
    have q9 := HQ.out
    go_wp2_with fail
    refine Calls.mono (sameVecs_eq _ _ _ _ (Ha.out.below (by go_grown)) (Hb.out.below (by go_grown))) ?_
    rintro e w9 ⟨rfl, hb9⟩
    have hB9 := belowTo (a := w8) (by go_grown) hb9
    replace Hf := Lib.hid (Hf.out.below hB9)
    replace Ho := Lib.hid (Ho.out.below hB9)
    replace Hx := Lib.hid (Hx.out.below hB9)
    replace Ha := Lib.hid (Ha.out.below hB9)
    replace Hb := Lib.hid (Hb.out.below hB9)
    replace HG := Lib.hid (HG.out.below hB9)
    replace HB := Lib.hid (belowTo HB.out hB9)
    clear hb9 hB9
    go_wp2
    go_returns
    exact ⟨rfl, HB.out⟩
end Go.Proofs.YtdlofnkimikaiaaDoor
