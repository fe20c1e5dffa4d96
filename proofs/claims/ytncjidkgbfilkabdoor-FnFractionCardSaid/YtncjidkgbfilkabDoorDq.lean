/- FnValue and FnOther. -/
import Derived.Test.YtncjidkgbfilkabDoorDp
import Derived.Test.YtncjidkgbfilkabDoorFi
namespace Go.Proofs.YtncjidkgbfilkabDoor
open Go.RowKit

theorem fract_of_list {l : List Int} (h : valB l = true) (hn : contN l ≤ 10000) : fractOk (contN l) (contQ l) = true ∧ fracZ (contN l) (contQ l) = l := by
  obtain ⟨q0, q1⟩ := contQ_pos h
  obtain ⟨h1, _⟩ := val_in h
  have ht := lst_two (lst_in h1).2
  refine ⟨?_, frac_cont ht⟩
  unfold fractOk
  rw [cont_gcd]
  simp [q0, q1, hn]
/-- the fraction of the two numbers of a list is the list -/
theorem fractionOf_list (l : List Int) (w : World) (h : valB l = true) (hn : contN l ≤ 10000) :
    Calls Tryd.prog 25 #[.int .i64 (contN l), .int .i64 (contQ l)] w (GivesIntsOk w l true) := by
  obtain ⟨e1, e2⟩ := fract_of_list h hn
  refine (fractionOfE_any (contN l) (contQ l) w).mono ?_
  intro e w' hh
  unfold FracGives at hh
  rw [e1, e2] at hh
  exact hh
theorem value_told (v : Value) (l : List Int) (w : World) (h : ReadsInts w v l) (hg : EtOk w) (hv : valB l = true) :
    Calls Tryd.prog 18 #[v] w fun e w' => e = .returned (.tuple #[.int .i64 (contN l), .int .i64 (contQ l), .bool true]) ∧ Below w.heap.size w w' := by
  refine (fractionValue_any v l w h hg).mono ?_
  rintro e w' ⟨rfl, hb⟩
  exact ⟨by rw [hv]; rfl, hb⟩
theorem value_untold (v : Value) (l : List Int) (w : World) (h : ReadsInts w v l) (hg : EtOk w) (hv : valB l = false) :
    Calls Tryd.prog 18 #[v] w fun e w' => e = .returned (.tuple #[.int .i64 0, .int .i64 0, .bool false]) ∧ Below w.heap.size w w' := by
  refine (fractionValue_any v l w h hg).mono ?_
  rintro e w' ⟨rfl, hb⟩
  exact ⟨by rw [hv]; rfl, hb⟩

set_option maxHeartbeats 4000000 in
theorem fnValue_any (a : Option Addr) (len cap : Nat) (w : World) (h : Bytes w a len cap) (hg : EtOk w) :
    Calls Tryd.prog 7 #[.slice a len cap] w fun e w' => e = .returned (.bool true) ∧ Below w.heap.size w w' := by
  by_cases hl : 1048576 < len
  · have hl' : (1048576 : Int) < (len : Int) := by omega
    go_enter Tryd.func7, Tryd.ntmps7
    go_wp2
    go_returns
    exact ⟨rfl, Below.refl _ _⟩
  · have hl' : (len : Int) ≤ 1048576 := by omega
    have HD := Lib.hid (drawFractionValue_any w a len cap h)
    clear h
    go_enter Tryd.func7, Tryd.ntmps7
    go_wp2_with fail
    refine Calls.mono HD.out ?_
    rintro e w0 ⟨v, l, rfl, hI, hl4, hA⟩
    have HI := Lib.hid hI
    have HR := Lib.hid (fun (w' : World) (h' : Ints w' w.heap.size v l) => h'.reads (by omega))
    clear hI hl4 HD
    cases hv : valB l
    · have HM := Lib.hid (fun w' h' hg' => value_untold v l w' h' hg' hv)
      have HS := Lib.hid (fun w' h' => specValue_none v l w' h' hv)
      clear hv
      go_wp2_with fail
      refine Calls.mono (HM.out _ (HR.out _ HI.out) (hg.below hA)) ?_
      rintro e w1 ⟨rfl, hb1⟩
      replace HI := Lib.hid (HI.out.below hb1)
      replace hA := belowTo hA hb1
      clear hb1
      go_wp2_with fail
      refine Calls.mono (HS.out _ (HR.out _ HI.out)) ?_
      rintro e w2 ⟨rfl, hb2⟩
      replace hA := belowTo hA hb2
      clear hb2
      go_wp2
      go_returns
      exact ⟨by simp, hA⟩
    · have HM := Lib.hid (fun w' h' hg' => value_told v l w' h' hg' hv)
      have HS := Lib.hid (fun w' h' => specValue_is v l w' h' hv)
      obtain ⟨q0, q1⟩ := contQ_pos hv
      have HF := Lib.hid (fun (w' : World) hn => fractionOf_list l w' hv hn)
      have HX := Lib.hid (fun v2 b2 w' (h2 : Ints w' b2 v2 l) (h' : Ints w' w.heap.size v l) => sameInts_same v2 v _ _ l w' h2 h')
      have HG := Lib.hid (fun w' => fractionOfE_any (contN l) (contQ l) w')
      unfold FracGives at HG
      generalize contN l = N at *
      generalize contQ l = Q at *
      clear hv
      go_wp2_with fail
      refine Calls.mono (HM.out _ (HR.out _ HI.out) (hg.below hA)) ?_
      rintro e w1 ⟨rfl, hb1⟩
      replace HI := Lib.hid (HI.out.below hb1)
      replace hA := belowTo hA hb1
      clear hb1
      go_wp2_with fail
      refine Calls.mono (HS.out _ (HR.out _ HI.out)) ?_
      rintro e w2 ⟨rfl, hb2⟩
      replace HI := Lib.hid (HI.out.below hb2)
      replace hA := belowTo hA hb2
      clear hb2
      by_cases hn : 10000 < N
      · clear HF
        go_wp2_with fail
        refine Calls.mono (HG.out _) ?_
        rintro e w3 ⟨v3, rfl, _, hb3⟩
        replace hA := belowTo hA hb3
        clear hb3
        generalize fractOk N Q = P
        go_wp2
        go_returns
        exact ⟨rfl, hA⟩
      · have hn' : N ≤ 10000 := by omega
        go_wp2_with fail
        refine Calls.mono (HF.out _ hn') ?_
        rintro e w3 ⟨v3, rfl, I3, hb3⟩
        replace HI := Lib.hid (HI.out.below hb3)
        replace I3 := Lib.hid I3
        replace hA := belowTo hA hb3
        clear hb3 HG
        go_wp2_with fail
        refine Calls.mono (HX.out _ _ _ I3.out HI.out) ?_
        rintro e w4 ⟨rfl, hb4⟩
        replace hA := belowTo hA hb4
        clear hb4
        go_wp2
        go_returns
        exact ⟨by simp, hA⟩

/-! FnOther -/
theorem sum_take {l : List Int} (h : twoUp l) (k : Nat) : 0 ≤ sumP (l.take k) ∧ sumP (l.take k) ≤ sumP l := by
  induction l generalizing k with
  | nil => simp [sumP]
  | cons b l ih =>
    have hb := h b (List.mem_cons_self ..)
    cases k with
    | zero =>
      have := (ih (twoUp_tail h) 0).2
      have h0 := (ih (twoUp_tail h) 0).1
      simp only [List.take_zero, sumP] at *
      omega
    | succ k =>
      have := ih (twoUp_tail h) k
      simp only [List.take_succ_cons, sumP]
      omega
theorem sum_app (l : List Int) (z : Int) : sumP (l ++ [z]) = sumP l + (z - 1) := by
  induction l with
  | nil => simp [sumP]
  | cons b l ih => simp only [List.cons_append, sumP, ih]; omega
theorem sum_next {l : List Int} {k : Nat} (h : k < l.length) : sumP (l.take (k + 1)) = sumP (l.take k) + (l[k]?.getD 0 - 1) := by
  have e2 : l.take (k + 1) = l.take k ++ [l[k]?.getD 0] := by
    rw [List.take_add_one]
    simp [h]
  rw [e2, sum_app]
theorem sum_hundred : ∀ {l : List Int}, (∀ b ∈ l, rngB b = true) → sumP l ≤ 99 * l.length := by
  intro l
  induction l with
  | nil => intro _; simp [sumP]
  | cons b l ih =>
    intro h
    have hb := (rng_in (h b (List.mem_cons_self ..))).2
    have := ih (fun c hc => h c (List.mem_cons_of_mem _ hc))
    simp only [sumP, List.length_cons]
    omega
theorem other_told (v : Value) (l : List Int) (w : World) (h : ReadsInts w v l) (hg : EtOk w) {K : Bool} (hk : otherB l = K) {D : List Int} (hD : dualL l = D) :
    Calls Tryd.prog 21 #[v] w (GivesIntsOk w (gateL K D) K) := by
  subst hk hD
  exact fractionOther_any v l w h hg
theorem specOther_told (v : Value) (l : List Int) (w : World) (h : ReadsInts w v l) {K : Bool} (hk : otherB l = K) {D : List Int} (hD : dualL l = D) :
    Calls Tryd.prog 20 #[v] w (GivesIntsOk w (gateL K D) K) := by
  subst hk hD
  exact specFractionOther_any v l w h
/-- what the law needs of a list and of the other list -/
theorem other_facts {l : List Int} (h : otherB l = true) :
    twoUp l ∧ twoUp (dualL l) ∧ sumP (dualL l) = sumP l ∧ sumP l = l.length + (dualL l).length - 1 ∧ sumP l ≤ 1980 ∧ l ≠ [] ∧ dualL l ≠ [] ∧ dualL (dualL l) = l ∧ (dualL l).length ≤ 10000 := by
  obtain ⟨h1, hn⟩ := other_in h
  obtain ⟨h2, _⟩ := val_in h1
  obtain ⟨h3, h4⟩ := lst_in h2
  have h5 := len_in h3
  obtain ⟨q0, q1⟩ := contQ_pos h1
  have ht := lst_two h4
  obtain ⟨s1, s2⟩ := dual_sum ht
  have hne : l ≠ [] := fun e => by rw [e] at h5; simp at h5
  obtain ⟨c, t, e, _⟩ := dual_cons ht
  have s3 := sum_hundred h4
  refine ⟨ht, frac_two _ _ (by omega), s1, s2, by omega, hne, by rw [e]; simp, dual_dual ht hne, ?_⟩
  have := frac_len (contN l) (contN l - contQ l)
  show (fracZ (contN l) (contN l - contQ l)).length ≤ _
  omega
set_option maxHeartbeats 4000000 in
theorem fnOther_any (a : Option Addr) (len cap : Nat) (w : World) (h : Bytes w a len cap) (hg : EtOk w) :
    Calls Tryd.prog 8 #[.slice a len cap] w fun e w' => e = .returned (.bool true) ∧ Below w.heap.size w w' := by
  by_cases hl : 1048576 < len
  · have hl' : (1048576 : Int) < (len : Int) := by omega
    go_enter Tryd.func8, Tryd.ntmps8
    go_wp2
    go_returns
    exact ⟨rfl, Below.refl _ _⟩
  · have hl' : (len : Int) ≤ 1048576 := by omega
    have HD := Lib.hid (drawFractionOther_any w a len cap h)
    clear h
    go_enter Tryd.func8, Tryd.ntmps8
    go_wp2_with fail
    refine Calls.mono HD.out ?_
    rintro e w0 ⟨v, l, rfl, hI, hl4, hA⟩
    have HI := Lib.hid hI
    have HR := Lib.hid (fun (w' : World) (h' : Ints w' w.heap.size v l) => h'.reads (by omega))
    clear hI HD
    cases hk : otherB l
    · have HM := Lib.hid (fun w' h' hg' => other_told v l w' h' hg' hk rfl)
      have HS := Lib.hid (fun w' h' => specOther_told v l w' h' hk rfl)
      clear hk hl4
      go_wp2_with fail
      refine Calls.mono (HM.out _ (HR.out _ HI.out) (hg.below hA)) ?_
      rintro e w1 ⟨v1, rfl, I1, hb1⟩
      replace HI := Lib.hid (HI.out.below hb1)
      replace I1 := Lib.hid I1
      replace hA := belowTo hA hb1
      clear hb1
      go_wp2_with fail
      refine Calls.mono (HS.out _ (HR.out _ HI.out)) ?_
      rintro e w2 ⟨v2, rfl, I2, hb2⟩
      replace I1 := Lib.hid (I1.out.below hb2)
      replace I2 := Lib.hid I2
      replace hA := belowTo hA hb2
      clear hb2
      go_wp2_with fail
      refine Calls.mono (sameInts_same v1 v2 _ _ _ _ I1.out I2.out) ?_
      rintro e w3 ⟨rfl, hb3⟩
      replace I1 := Lib.hid (I1.out.below hb3)
      replace I2 := Lib.hid (I2.out.below hb3)
      replace hA := belowTo hA hb3
      clear hb3
      go_wp2_with fail
      refine Calls.mono (sameInts_same v1 v2 _ _ _ _ I1.out I2.out) ?_
      rintro e w4 ⟨rfl, hb4⟩
      replace hA := belowTo hA hb4
      clear hb4
      go_wp2
      go_returns
      exact ⟨by simp, hA⟩
    · obtain ⟨t1, t2, s1, s2, s3, n1, n2, dd, dl⟩ := other_facts hk
      have HM := Lib.hid (fun w' h' hg' => other_told v l w' h' hg' hk rfl)
      have HS := Lib.hid (fun w' h' => specOther_told v l w' h' hk rfl)
      have HN := Lib.hid (fun v' w' h' hg' => other_told v' (dualL l) w' h' hg' rfl dd)
      generalize dualL l = D at *
      have HRD := Lib.hid (fun (w' : World) (b : Nat) (v' : Value) (h' : Ints w' b v' D) => h'.reads (by omega))
      clear hk dd
      go_wp2_with fail
      refine Calls.mono (HM.out _ (HR.out _ HI.out) (hg.below hA)) ?_
      rintro e w1 ⟨v1, rfl, I1, hb1⟩
      replace HI := Lib.hid (HI.out.below hb1)
      have I1' : Hid (Ints w1 w0.heap.size v1 D) := I1
      clear I1
      replace hA := belowTo hA hb1
      clear hb1
      go_wp2_with fail
      refine Calls.mono (HS.out _ (HR.out _ HI.out)) ?_
      rintro e w2 ⟨v2, rfl, I2, hb2⟩
      replace I1' := Lib.hid (I1'.out.below hb2)
      replace HI := Lib.hid (HI.out.below hb2)
      have I2' : Hid (Ints w2 w1.heap.size v2 D) := I2
      clear I2
      replace hA := belowTo hA hb2
      clear hb2
      go_wp2_with fail
      refine Calls.mono (sameInts_same v1 v2 _ _ _ _ I1'.out I2'.out) ?_
      rintro e w3 ⟨rfl, hb3⟩
      replace I1' := Lib.hid (I1'.out.below hb3)
      replace HI := Lib.hid (HI.out.below hb3)
      replace hA := belowTo hA hb3
      clear hb3 I2'
      have hIl := HI.out
      have hID := I1'.out
      rcases hIl.form with ⟨h0, _⟩ | ⟨_, g, c, rfl, _, hgs, _⟩
      · exact absurd h0 n1
      rcases hID.form with ⟨h0, _⟩ | ⟨_, g2, c2, rfl, _, hgs2, _⟩
      · exact absurd h0 n2
      obtain ⟨m, hm⟩ : ∃ m, m = l.length := ⟨_, rfl⟩
      obtain ⟨m2, hm2⟩ : ∃ m2, m2 = D.length := ⟨_, rfl⟩
      have HC := Lib.hid (fun j (hj : j < m) => hIl.cell j (by omega))
      have HC2 := Lib.hid (fun j (hj : j < m2) => hID.cell j (by omega))
      have HT := Lib.hid (fun k => sum_take t1 k)
      have HT2 := Lib.hid (fun k => sum_take t2 k)
      have HX := Lib.hid (fun k (hj : k < m) => sum_next (l := l) (k := k) (by omega))
      have HX2 := Lib.hid (fun k (hj : k < m2) => sum_next (l := D) (k := k) (by omega))
      have HS1 := Lib.hid s1
      have HS2 : Hid (sumP l = (m : Int) + (m2 : Int) - 1) := by show sumP l = _; rw [hm, hm2]; exact s2
      have HS3 := Lib.hid s3
      have HTl : Hid (l.take m = l) := by show l.take m = l; rw [hm]; exact List.take_length ..
      have HTD : Hid (D.take m2 = D) := by show D.take m2 = D; rw [hm2]; exact List.take_length ..
      have hm4 : m ≤ 4 := by omega
      have hm24 : m2 ≤ 10000 := by omega
      have J1 : Hid (Ints w3 w0.heap.size (.slice (some ⟨g2, 0, none⟩) m2 c2) D) := by show Ints _ _ _ _; rw [hm2]; exact hID
      have JI : Hid (Ints w3 w.heap.size (.slice (some ⟨g, 0, none⟩) m c) l) := by show Ints _ _ _ _; rw [hm]; exact hIl
      rw [← hm, ← hm2]
      clear hIl hID t1 t2 s1 s2 s3 n1 n2 hl4 dl hm hm2 HM HS HI I1'
      go_wp2
      go_loop [8, 9] (fun s8 s9 => ∃ k : Nat, s8 = .int .i64 (sumP (l.take k)) ∧ s9 = .int .i64 k ∧ k ≤ m) (fun _ s9 => m - (intOf s9).toNat)
      case atStart => exact ⟨0, rfl, rfl, Nat.zero_le _⟩
      case round =>
        obtain ⟨k, rfl, rfl, hk⟩ := hrel
        by_cases hlt : k < m
        · have c1 := HC.out k hlt
          have e1 := HX.out k hlt
          have b1 := HT.out k
          have b2 := HT.out (k + 1)
          have b3 := HS3.out
          have EX := Lib.hid e1
          have hbd : 0 ≤ sumP (l.take k) ∧ sumP (l.take k) ≤ 2000 ∧ -2000 ≤ l[k]?.getD 0 ∧ l[k]?.getD 0 ≤ 4000 := by omega
          obtain ⟨d1, d2, d3, d4⟩ := hbd
          have EG : Hid (sumP (l.take k) + l[k]?.getD 0 - 1 = sumP (l.take (k + 1))) := by show _ = _; rw [EX.out]; omega
          clear e1 b1 b2 b3 EX
          generalize l[k]?.getD 0 = z at *
          generalize sumP (l.take k) = S at *
          have j1 : (0 : Int) ≤ (k : Int) := by omega
          have j2 : (k : Int) < (m : Int) := by omega
          go_wp2
          go_round
          case rel => exact ⟨k + 1, by rw [EG.out], by go_num, by omega⟩
          case measure => simp [intOf]; omega
        · have hkm : k = m := by omega
          subst hkm
          have e1 : sumP (l.take k) = sumP l := by rw [HTl.out]
          rw [e1]
          clear hlt
          go_wp2
          go_loop [10, 11] (fun s8 s9 => ∃ j : Nat, s8 = .int .i64 (sumP (D.take j)) ∧ s9 = .int .i64 j ∧ j ≤ m2) (fun _ s9 => m2 - (intOf s9).toNat)
          case atStart => exact ⟨0, rfl, rfl, Nat.zero_le _⟩
          case round =>
            obtain ⟨j, rfl, rfl, hj⟩ := hrel
            by_cases hlt : j < m2
            · have c1 := HC2.out j hlt
              have e1 := HX2.out j hlt
              have b1 := HT2.out j
              have b2 := HT2.out (j + 1)
              have b3 := HS3.out
              have b4 := HS1.out
              have EX := Lib.hid e1
              have hbd : 0 ≤ sumP (D.take j) ∧ sumP (D.take j) ≤ 2000 ∧ -2000 ≤ D[j]?.getD 0 ∧ D[j]?.getD 0 ≤ 4000 := by omega
              obtain ⟨d1, d2, d3, d4⟩ := hbd
              have EG : Hid (sumP (D.take j) + D[j]?.getD 0 - 1 = sumP (D.take (j + 1))) := by show _ = _; rw [EX.out]; omega
              clear e1 b1 b2 b3 b4 EX
              generalize D[j]?.getD 0 = z at *
              generalize sumP (D.take j) = S at *
              have j1 : (0 : Int) ≤ (j : Int) := by omega
              have j2 : (j : Int) < (m2 : Int) := by omega
              go_wp2
              go_round
              case rel => exact ⟨j + 1, by rw [EG.out], by go_num, by omega⟩
              case measure => simp [intOf]; omega
            · have hjm : j = m2 := by omega
              subst hjm
              have e2 : sumP (D.take j) = sumP l := by rw [HTD.out, HS1.out]
              rw [e2]
              have e3 := HS2.out
              clear hlt
              generalize sumP l = S at *
              cases hp : otherB D
              · have HN2 := HN.out
                rw [hp] at HN2
                have HN3 := Lib.hid HN2
                clear HN2 HN hp
                go_wp2_with fail
                refine Calls.mono (HN3.out _ _ (HRD.out _ _ _ J1.out) (hg.below hA)) ?_
                rintro e w4 ⟨v4, rfl, _, hb4⟩
                replace hA := belowTo hA hb4
                clear hb4
                go_wp2
                go_returns
                exact ⟨by simp, hA⟩
              · have HN2 := HN.out
                rw [hp] at HN2
                have HN3 := Lib.hid HN2
                clear HN2 HN hp
                go_wp2_with fail
                refine Calls.mono (HN3.out _ _ (HRD.out _ _ _ J1.out) (hg.below hA)) ?_
                rintro e w4 ⟨v4, rfl, I4, hb4⟩
                have I4' : Hid (Ints w4 w3.heap.size v4 l) := I4
                replace JI := Lib.hid (JI.out.below hb4)
                replace hA := belowTo hA hb4
                clear hb4 I4
                go_wp2_with fail
                refine Calls.mono (sameInts_same v4 _ _ _ l _ I4'.out JI.out) ?_
                rintro e w5 ⟨rfl, hb5⟩
                replace hA := belowTo hA hb5
                clear hb5
                go_wp2
                go_returns
                exact ⟨by simp, hA⟩
end Go.Proofs.YtncjidkgbfilkabDoor
