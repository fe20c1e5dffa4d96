/- FractionOther: both sides; the exact laws of FractionValue and FractionOther. -/
import Derived.Test.YtncjidkgbfilkabDoorFf
import Derived.Test.YtncjidkgbfilkabDoorFg
import Derived.Test.YtncjidkgbfilkabDoorFb
namespace Go.Proofs.YtncjidkgbfilkabDoor
open Go.RowKit

theorem contQ_pos {l : List Int} (h : valB l = true) : 1 ≤ contQ l ∧ contQ l < contN l := by
  obtain ⟨h1, _⟩ := val_in h
  obtain ⟨h2, h3⟩ := lst_in h1
  have h4 := len_in h2
  cases l with
  | nil => simp at h4
  | cons b t =>
    have h5 := cont_lt (lst_two h3)
    have h6 := cont_pos (twoUp_tail (lst_two h3))
    exact ⟨h6, h5.2⟩
def otherB (l : List Int) : Bool := valB l && decide (contN l ≤ 10000)
theorem other_in {l : List Int} (h : otherB l = true) : valB l = true ∧ contN l ≤ 10000 := by simpa [otherB] using h
theorem other_len (l : List Int) : (gateL (otherB l) (dualL l)).length ≤ 1152921504606846976 := by
  cases h : otherB l
  · exact Nat.zero_le _
  · obtain ⟨h1, h2⟩ := other_in h
    have := contQ_pos h1
    have h3 := frac_len (contN l) (contN l - contQ l)
    show (fracZ (contN l) (contN l - contQ l)).length ≤ _
    omega
set_option maxHeartbeats 2000000 in
theorem fractionOther_any (v : Value) (l : List Int) (w : World) (h : ReadsInts w v l) (hg : EtOk w) :
    Calls Tryd.prog 21 #[v] w (GivesIntsOk w (gateL (otherB l) (dualL l)) (otherB l)) := by
  unfold otherB
  cases hv : valB l
  · have HC := Lib.hid (fun w' h' => value_not v l w' h' hv)
    have HH := Lib.hid h
    obtain ⟨a, c, rfl, _, _⟩ := h
    rw [Bool.false_and]
    go_enter Tryd.func21, Tryd.ntmps21
    go_wp2_with fail
    go_call (HC.out _ HH.out) as e w1 ⟨⟨s, rfl⟩, hb1⟩
    obtain ⟨hc1, hf1⟩ := bcell hb1; have hz1 := bsize hb1
    (go_wp2_with fail; go_call (none_hit _ _ (hg.below hb1)) as e w2 ⟨rfl, hb2⟩); replace hb1 := belowTo hb1 hb2; clear hb2 hc1 hf1 hz1; obtain ⟨hc1, hf1⟩ := bcell hb1; have hz1 := bsize hb1
    go_wp2
    go_returns
    exact ⟨_, rfl, Ints.nil _ _, hb1⟩
  · have HC := Lib.hid (fun w' h' => value_yes v l w' h' hv)
    obtain ⟨q0, q1⟩ := contQ_pos hv
    have hm := (val_in hv).2
    have HH := Lib.hid h
    have HF := Lib.hid (fun (w' : World) (hn : contN l ≤ 10000) => fractionOf_any (contN l) (contN l - contQ l) w' (by omega) (by omega) (by omega))
    have HD : Hid (dualL l = fracZ (contN l) (contN l - contQ l)) := rfl
    obtain ⟨a, c, rfl, _, _⟩ := h
    rw [Bool.true_and]
    generalize dualL l = D at *
    generalize contN l = N at *
    generalize contQ l = Q at *
    by_cases hn : N ≤ 10000
    · rw [decide_eq_true hn]
      go_enter Tryd.func21, Tryd.ntmps21
      go_wp2_with fail
      go_call (HC.out _ HH.out) as e w1 ⟨rfl, hb1⟩
      obtain ⟨hc1, hf1⟩ := bcell hb1; have hz1 := bsize hb1
      (go_wp2_with fail; go_call (none_nil _) as e w2 ⟨rfl, hb2⟩); replace hb1 := belowTo hb1 hb2; clear hb2 hc1 hf1 hz1; obtain ⟨hc1, hf1⟩ := bcell hb1; have hz1 := bsize hb1
      go_wp2_with fail
      refine Calls.mono (HF.out _ hn) ?_
      rintro e w3 ⟨u, rfl, hI, hb3⟩
      have hI' := Lib.hid (hI.lower hb1.size)
      have hB := belowTo hb1 hb3
      clear hI hb3 hc1 hf1 hz1 hb1
      go_wp2
      go_returns
      exact ⟨_, rfl, by rw [HD.out]; exact hI'.out, hB⟩
    · have hn2 : 10000 < N := by omega
      rw [decide_eq_false hn]
      clear hn
      go_enter Tryd.func21, Tryd.ntmps21
      go_wp2_with fail
      go_call (HC.out _ HH.out) as e w1 ⟨rfl, hb1⟩
      obtain ⟨hc1, hf1⟩ := bcell hb1; have hz1 := bsize hb1
      (go_wp2_with fail; go_call (none_nil _) as e w2 ⟨rfl, hb2⟩); replace hb1 := belowTo hb1 hb2; clear hb2 hc1 hf1 hz1; obtain ⟨hc1, hf1⟩ := bcell hb1; have hz1 := bsize hb1
      go_wp2
      go_returns
      exact ⟨_, rfl, Ints.nil _ _, hb1⟩
theorem specValue_is (v : Value) (l : List Int) (w : World) (h : ReadsInts w v l) (hv : valB l = true) :
    Calls Tryd.prog 16 #[v] w fun e w' => e = .returned (.tuple #[.int .i64 (contN l), .int .i64 (contQ l), .bool true]) ∧ Below w.heap.size w w' := by
  refine (specFractionValue_any v l w h).mono ?_
  rintro e w' ⟨rfl, hb⟩
  exact ⟨by rw [hv]; rfl, hb⟩
theorem specValue_none (v : Value) (l : List Int) (w : World) (h : ReadsInts w v l) (hv : valB l = false) :
    Calls Tryd.prog 16 #[v] w fun e w' => e = .returned (.tuple #[.int .i64 0, .int .i64 0, .bool false]) ∧ Below w.heap.size w w' := by
  refine (specFractionValue_any v l w h).mono ?_
  rintro e w' ⟨rfl, hb⟩
  exact ⟨by rw [hv]; rfl, hb⟩
set_option maxHeartbeats 2000000 in
theorem specFractionOther_any (v : Value) (l : List Int) (w : World) (h : ReadsInts w v l) :
    Calls Tryd.prog 20 #[v] w (GivesIntsOk w (gateL (otherB l) (dualL l)) (otherB l)) := by
  have hE := Lib.hid (fun w' : World => Ints.empty w')
  unfold otherB
  cases hv : valB l
  · have HC := Lib.hid (fun w' h' => specValue_none v l w' h' hv)
    have HH := Lib.hid h
    obtain ⟨a, c, rfl, _, _⟩ := h
    rw [Bool.false_and]
    go_enter Tryd.func20, Tryd.ntmps20
    go_wp2_with fail
    go_call (HC.out _ HH.out) as e w1 ⟨rfl, hb1⟩
    go_wp2
    go_returns
    exact ⟨_, rfl, (hE.out _).lower hb1.size, by have := hb1.size; go_grown⟩
  · have HC := Lib.hid (fun w' h' => specValue_is v l w' h' hv)
    obtain ⟨q0, q1⟩ := contQ_pos hv
    have hm := (val_in hv).2
    have HH := Lib.hid h
    have HF := Lib.hid (fun (w' : World) (hn : contN l ≤ 10000) => l2Fraction_any (contN l) (contN l - contQ l) w' (by omega) (by omega) (by omega))
    have HD : Hid (dualL l = fracZ (contN l) (contN l - contQ l)) := rfl
    obtain ⟨a, c, rfl, _, _⟩ := h
    rw [Bool.true_and]
    generalize dualL l = D at *
    generalize contN l = N at *
    generalize contQ l = Q at *
    by_cases hn : N ≤ 10000
    · rw [decide_eq_true hn]
      go_enter Tryd.func20, Tryd.ntmps20
      go_wp2_with fail
      go_call (HC.out _ HH.out) as e w1 ⟨rfl, hb1⟩
      go_wp2_with fail
      refine Calls.mono (HF.out _ hn) ?_
      rintro e w3 ⟨u, rfl, hI, hb3⟩
      have hI' := Lib.hid (hI.lower hb1.size)
      have hB := belowTo hb1 hb3
      clear hI hb3 hb1
      go_wp2
      go_returns
      exact ⟨_, rfl, by rw [HD.out]; exact hI'.out, hB⟩
    · have hn2 : 10000 < N := by omega
      rw [decide_eq_false hn]
      clear hn
      go_enter Tryd.func20, Tryd.ntmps20
      go_wp2_with fail
      go_call (HC.out _ HH.out) as e w1 ⟨rfl, hb1⟩
      go_wp2
      go_returns
      exact ⟨_, rfl, (hE.out _).lower hb1.size, by have := hb1.size; go_grown⟩

set_option maxHeartbeats 4000000 in
theorem exactFractionValue_any (v : Value) (l : List Int) (w : World) (h : ReadsInts w v l) (hg : EtOk w) :
    Calls Tryd.prog 4 #[v] w fun e w' => e = .returned (.bool true) ∧ Below w.heap.size w w' := by
  have h' := h
  obtain ⟨a, c, rfl, hm0, _⟩ := h'
  by_cases hl : 1048576 < l.length
  · have hl' : (1048576 : Int) < (l.length : Int) := by omega
    clear h
    go_enter Tryd.func4, Tryd.ntmps4
    go_wp2
    go_returns
    exact ⟨rfl, Below.refl _ _⟩
  · have hl' : (l.length : Int) ≤ 1048576 := by omega
    have hl2 : l.length ≤ 1048576 := by omega
    have HT := Lib.hid (fun w' h' => toIntS_any (.slice a l.length c) l w' h' hl2)
    have HS := Lib.hid (fun v' w' h' => specFractionValue_any v' l w' h')
    have HM := Lib.hid (fun v' w' h' hg' => fractionValue_any v' l w' h' hg')
    have HE := Lib.hid (fun v1 v2 b1 b2 w' h1 h2 => eqIntS_same v1 v2 b1 b2 l w' h1 h2)
    have HR := Lib.hid (fun (w' : World) (b : Nat) (v' : Value) (h' : Ints w' b v' l) => h'.reads (by omega))
    have HH := Lib.hid h
    have EZ := Lib.hid (rfl : ValueGives = ValueGives)
    unfold ValueGives at HS HM
    generalize valB l = K at HS HM
    generalize gate K (contN l) = N at HS HM
    generalize gate K (contQ l) = Q at HS HM
    generalize l.length = n at *
    clear h hl hl2 hm0 EZ
    go_enter Tryd.func4, Tryd.ntmps4
    go_wp2_with fail
    refine Calls.mono (HT.out _ HH.out) ?_
    rintro e w1 ⟨v1, rfl, I1, hb1⟩
    replace HH := Lib.hid (HH.out.below hb1)
    go_wp2_with fail
    refine Calls.mono (HS.out _ _ (HR.out _ _ _ I1)) ?_
    rintro e w2 ⟨rfl, hb2⟩
    replace HH := Lib.hid (HH.out.below hb2)
    have hA := belowTo hb1 hb2
    clear I1 hb1 hb2
    go_wp2_with fail
    refine Calls.mono (HT.out _ HH.out) ?_
    rintro e w3 ⟨v3, rfl, I3, hb3⟩
    replace I3 := Lib.hid I3
    replace HH := Lib.hid (HH.out.below hb3)
    replace hA := belowTo hA hb3
    clear hb3
    go_wp2_with fail
    refine Calls.mono (HM.out _ _ (HR.out _ _ _ I3.out) (hg.below hA)) ?_
    rintro e w4 ⟨rfl, hb4⟩
    replace I3 := Lib.hid (I3.out.below hb4)
    replace HH := Lib.hid (HH.out.below hb4)
    replace hA := belowTo hA hb4
    clear hb4
    go_wp2_with fail
    refine Calls.mono (HT.out _ HH.out) ?_
    rintro e w5 ⟨v5, rfl, I5, hb5⟩
    replace I5 := Lib.hid I5
    replace I3 := Lib.hid (I3.out.below hb5)
    replace hA := belowTo hA hb5
    clear hb5
    go_wp2_with fail
    refine Calls.mono (HE.out _ _ _ _ _ I3.out I5.out) ?_
    rintro e w6 ⟨rfl, hb6⟩
    replace hA := belowTo hA hb6
    clear hb6 I3 I5
    go_wp2
    go_returns
    exact ⟨rfl, hA⟩
end Go.Proofs.YtncjidkgbfilkabDoor
