import Derived.Test.YtgaeibibeekclabGreatDoorS57
import Derived.Test.YtgaeibibeekclabGreatDoorS66
import Derived.Test.YtgaeibibeekclabGreatDoorS67
namespace Go.Proofs.YtgaeibibeekclabGreatDoor
open Go.RowKit
def ltTwo (x : Int) : Int := if x < 2 then 1 else 0
theorem EdgeV.cnt {n : Nat} {p s : Nat → P2} {g : Nat → Nat} {m : Nat} {E : Nat → P2} {base : Nat → Nat} (k : EdgeV n p s g m E base) (h : ReflV n p s g) : ∀ j, sumI (fun i => ltTwo (dtV (E i) (E (i + 2)))) (base j) = j := by
  intro j
  induction j with
  | zero => rw [k.zero]; rfl
  | succ j ih =>
    have hp := h.pos j
    have last : dtV (E (base j + (g j - 1))) (E (base j + (g j - 1) + 2)) < 2 := by
      have a1 := k.at1 j (g j - 1) (by omega)
      have a2 := k.at2 j (g j - 1) (by omega)
      have b1 := k.at1 (j + 1) 1 (h.pos _)
      have b2 := k.at2 (j + 1) 1 (h.pos _)
      rw [show base (j + 1) + 1 = base j + (g j - 1) + 2 by rw [k.succ]; omega] at b1 b2
      have w1 := h.way1 j
      have w2 := h.way2 j
      have o := h.one' j
      have o2 := h.one (j + 1)
      have c := h.cpos j
      have q : ((g j - 1 : Nat) : Int) = (g j : Int) - 1 := by omega
      rw [q] at a1 a2
      have a1' : (E (base j + (g j - 1))).1 = (p (j + 1)).1 - (s j).1 := by rw [a1, w1]; grind
      have a2' : (E (base j + (g j - 1))).2 = (p (j + 1)).2 - (s j).2 := by rw [a2, w2]; grind
      have e2 : dtV (E (base j + (g j - 1))) (E (base j + (g j - 1) + 2)) = dtV (p (j + 1)) (s (j + 1)) + dtV (p (j + 1)) (s j) - dtV (s j) (s (j + 1)) := by
        unfold dtV
        rw [a1', a2', b1, b2]
        grind
      omega
    have mid : ∀ x, x < g j - 1 → dtV (E (base j + x)) (E (base j + x + 2)) = 2 := by
      intro x hx
      have a1 := k.at1 j x (by omega)
      have a2 := k.at2 j x (by omega)
      have b1 := k.at1 j (x + 2) (by omega)
      have b2 := k.at2 j (x + 2) (by omega)
      rw [← Nat.add_assoc] at b1 b2
      have o := h.one j
      have e2 : dtV (E (base j + x)) (E (base j + x + 2)) = 2 * dtV (p j) (s j) := by
        unfold dtV
        rw [a1, a2, b1, b2, Int.natCast_add]
        grind
      omega
    rw [k.succ, sumI_split, ih]
    have e1 : sumI (fun i => ltTwo (dtV (E (base j + i)) (E (base j + i + 2)))) (g j) = 1 := by
      obtain ⟨G, hG⟩ : ∃ G, g j = G + 1 := ⟨g j - 1, by omega⟩
      rw [hG] at last mid ⊢
      rw [show G + 1 - 1 = G by omega] at last mid
      rw [sumI_succ, sumI_zero (fun x hx => by rw [mid x hx]; rfl)]
      unfold ltTwo
      rw [if_pos last]
      rfl
    rw [e1]
    omega
def abvZ (N : List Int) (k : Nat) : Int := sumI (fun i => ltTwo (-gz N i)) k
def sumN (N : List Int) (k : Nat) : Int := sumI (fun i => 3 + gz N i) k
theorem abv_succ (N : List Int) (k : Nat) : abvZ N (k + 1) = abvZ N k + ltTwo (-gz N k) := rfl
theorem sumN_succ (N : List Int) (k : Nat) : sumN N (k + 1) = sumN N k + (3 + gz N k) := rfl
theorem nums_gz {D : List V2} {k : Nat} (hk : k < D.length) : gz (numsZ D) k = numZ D k := by
  unfold gz numsZ
  rw [List.getElem?_map, List.getElem?_range hk]
  rfl
/-- all that FnReflexiveNumbers asks -/
theorem pt_all {l : List V2} (h : numRB l = true) : (3 ≤ (numRL l).length ∧ (numRL l).length ≤ 20) ∧ (∀ k, k < (numRL l).length → -2 ≤ gz (numRL l) k ∧ gz (numRL l) k ≤ 2000000) ∧ sumN (numRL l) (numRL l).length = 12 ∧ abvZ (numRL l) (numRL l).length = l.length := by
  have h' := h
  unfold numRB at h'
  rw [Bool.and_eq_true] at h'
  obtain ⟨hf, hs⟩ := h'
  have hr : reflB l = true := by unfold fanRB at hf; rw [Bool.and_eq_true] at hf; exact hf.1
  obtain ⟨e, hsm, hcv, _, h20⟩ := po_all hf
  have en : numRL l = numsZ (fanRL l) := by unfold numRL; rw [h]; rfl
  have hE := edg_E hr
  have hV := refl_V hr
  have l3 := edg_len hr
  have hS := smooth_all hsm
  have hln : (numsZ (fanRL l)).length = (fanRL l).length := nums_len _
  have hlf : (fanRL l).length = (edgL l).length := by rw [e]; exact tidyL_len _
  have hnum : ∀ k, numZ (fanRL l) k = -(dtV (cyc (edgL l) (tidyK (edgL l) + (edgL l).length - 1 + k)) (cyc (edgL l) (tidyK (edgL l) + (edgL l).length - 1 + k + 2))) := by
    intro k
    have hK : tidyK (edgL l) ≤ (edgL l).length := Nat.le_of_lt (tidyK_lt (by omega))
    have hc : ∀ i, cyc (fanRL l) i = cyc (edgL l) (tidyK (edgL l) + i) := fun i => by rw [e]; unfold tidyL; exact cyc_rot hK i
    unfold numZ
    rw [hc, hc, hlf, show tidyK (edgL l) + (k + (edgL l).length - 1) = tidyK (edgL l) + (edgL l).length - 1 + k by omega,
      show tidyK (edgL l) + (edgL l).length - 1 + k + 2 = tidyK (edgL l) + (k + 1) + (edgL l).length by omega, cyc_add]
    rfl
  rw [en, hln]
  refine ⟨⟨(smooth_len hsm).1, h20⟩, fun k hk => ?_, ?_, ?_⟩
  · rw [nums_gz hk]
    have t := hE.two hV (tidyK (edgL l) + (edgL l).length - 1 + k)
    have b := det_small (a := cyc (fanRL l) (k + (fanRL l).length - 1)) (b := cyc (fanRL l) (k + 1)) (hS.1 _) (hS.1 _)
    have n := hnum k
    have n2 : numZ (fanRL l) k = -(detV (cyc (fanRL l) (k + (fanRL l).length - 1)) (cyc (fanRL l) (k + 1))) := rfl
    omega
  · have t := twelve_sum hsm
    rw [← t]
    have : ∀ n, n ≤ (fanRL l).length → sumN (numsZ (fanRL l)) n = sum3 (fanRL l) n := by
      intro n
      induction n with
      | zero => intro _; rfl
      | succ n ih =>
        intro hn
        rw [sumN_succ, sum3_succ, ih (by omega), nums_gz (by omega)]
    exact this _ (Nat.le_refl _)
  · have c := hE.cnt hV l.length
    rw [hE.all] at c
    rw [← c, hlf, ← sumI_rot (f := fun i => ltTwo (dtV (cyc (edgL l) i) (cyc (edgL l) (i + 2)))) (n := (edgL l).length) (fun i => by
      show ltTwo (dtV (cyc (edgL l) (i + (edgL l).length)) (cyc (edgL l) (i + (edgL l).length + 2))) = _
      rw [cyc_add, show i + (edgL l).length + 2 = i + 2 + (edgL l).length by omega, cyc_add]) (tidyK (edgL l) + (edgL l).length - 1)]
    unfold abvZ
    refine sumI_congr (fun k hk => ?_)
    rw [nums_gz (by omega), hnum k, Int.neg_neg]
end Go.Proofs.YtgaeibibeekclabGreatDoor
namespace Go.Proofs.YtgaeibibeekclabGreatDoor
open Go.RowKit
set_option maxRecDepth 100000 in
set_option maxHeartbeats 16000000 in
theorem fnReflexiveNumbers_any (a : Option Addr) (len cap : Nat) (w : World) (h : Bytes w a len cap) (hg : EtOk w) :
    Calls Tryz.prog 7 #[.slice a len cap] w fun e w' => e = .returned (.bool true) ∧ Below w.heap.size w w' := by
  by_cases hlen : len ≤ 1048576
  case neg =>
    have j1 : (1048576 : Int) < (len : Int) := by omega
    clear h hg
    go_enter Tryz.func7, Tryz.ntmps7
    go_wp2
    go_returns
    exact ⟨rfl, by go_grown⟩
  case pos =>
  have j1 : (len : Int) ≤ 1048576 := by omega
  have HO := Lib.hid (drawReflexiveNumbers_any w a len cap h)
  clear h
  go_enter Tryz.func7, Tryz.ntmps7
  go_wp2_with fail
  refine Calls.mono HO.out ?_
  rintro e w1 ⟨v, l, rfl, hV, h2, h20, hb1⟩
  have HG := Lib.hid (hg.below hb1)
  have Hf := Lib.hid hV
  have HB : Hid (Below w.heap.size w w1) := hb1
  clear hb1 HO hg hV
  cases hk : numRB l
  · have C1 : Hid (∀ (w' : World) (v0 : Value), ReadsVecs w' v0 (l) → EtOk w' → Calls Tryz.prog 29 #[v0] w' (GivesIntsOk w' ([]) (false))) := fun w' v0 h0 hg' => by
      have h := reflexiveNumbers_any v0 l w' h0 hg'
      first | rw [show numRL l = [] by unfold numRL; rw [hk]; rfl, hk] at h | rw [hk] at h
      exact h
    have C2 : Hid (∀ (w' : World) (v0 : Value), ReadsVecs w' v0 (l) → EtOk w' → Calls Tryz.prog 30 #[v0] w' (GivesIntsOk w' ([]) (false))) := fun w' v0 h0 hg' => by
      have h := specReflexiveNumbers_any v0 l w' h0
      first | rw [show numRL l = [] by unfold numRL; rw [hk]; rfl, hk] at h | rw [hk] at h
      exact h
    clear hk
    go_wp2_with fail
    refine Calls.mono (C1.out _ _ (Hf.out.below (by go_grown)) (HG.out.below (by go_grown))) ?_
    rintro e w2 ⟨v2, rfl, hI2, hb2⟩
    have hB2 := belowTo (a := w1) (by go_grown) hb2
    replace Hf := Lib.hid (Hf.out.below hB2)
    replace HG := Lib.hid (HG.out.below hB2)
    replace HB := Lib.hid (belowTo HB.out hB2)
    clear hb2 hB2
    have Ho1 := Lib.hid (Ints.reads hI2 (by simp))
    clear hI2
    go_wp2_with fail
    refine Calls.mono (C2.out _ _ (Hf.out.below (by go_grown)) (HG.out.below (by go_grown))) ?_
    rintro e w3 ⟨v3, rfl, hI3, hb3⟩
    have hB3 := belowTo (a := w2) (by go_grown) hb3
    replace Hf := Lib.hid (Hf.out.below hB3)
    replace Ho1 := Lib.hid (Ho1.out.below hB3)
    replace HG := Lib.hid (HG.out.below hB3)
    replace HB := Lib.hid (belowTo HB.out hB3)
    clear hb3 hB3
    have Ho2 := Lib.hid (Ints.reads hI3 (by simp))
    clear hI3
    go_wp2_with fail
    refine Calls.mono (sameInts_eq _ _ _ _ (Ho1.out.below (by go_grown)) (Ho2.out.below (by go_grown))) ?_
    rintro e w4 ⟨rfl, hb4⟩
    have hB4 := belowTo (a := w3) (by go_grown) hb4
    replace Hf := Lib.hid (Hf.out.below hB4)
    replace Ho1 := Lib.hid (Ho1.out.below hB4)
    replace Ho2 := Lib.hid (Ho2.out.below hB4)
    replace HG := Lib.hid (HG.out.below hB4)
    replace HB := Lib.hid (belowTo HB.out hB4)
    clear hb4 hB4
    go_wp2_with fail
    refine Calls.mono (sameInts_eq _ _ _ _ (Ho1.out.below (by go_grown)) (Ho2.out.below (by go_grown))) ?_
    rintro e w5 ⟨rfl, hb5⟩
    have hB5 := belowTo (a := w4) (by go_grown) hb5
    replace Hf := Lib.hid (Hf.out.below hB5)
    replace Ho1 := Lib.hid (Ho1.out.below hB5)
    replace Ho2 := Lib.hid (Ho2.out.below hB5)
    replace HG := Lib.hid (HG.out.below hB5)
    replace HB := Lib.hid (belowTo HB.out hB5)
    clear hb5 hB5
    go_wp2
    go_returns
    exact ⟨rfl, HB.out⟩
  · have C1 : Hid (∀ (w' : World) (v0 : Value), ReadsVecs w' v0 (l) → EtOk w' → Calls Tryz.prog 29 #[v0] w' (GivesIntsOk w' (numRL l) (true))) := fun w' v0 h0 hg' => by
      have h := reflexiveNumbers_any v0 l w' h0 hg'
      first | rw [show numRL l = [] by unfold numRL; rw [hk]; rfl, hk] at h | rw [hk] at h
      exact h
    have C2 : Hid (∀ (w' : World) (v0 : Value), ReadsVecs w' v0 (l) → EtOk w' → Calls Tryz.prog 30 #[v0] w' (GivesIntsOk w' (numRL l) (true))) := fun w' v0 h0 hg' => by
      have h := specReflexiveNumbers_any v0 l w' h0
      first | rw [show numRL l = [] by unfold numRL; rw [hk]; rfl, hk] at h | rw [hk] at h
      exact h
    obtain ⟨⟨q0, q0x⟩, q1, q2, q3⟩ := pt_all hk
    have HQ1 := Lib.hid q1
    have HS12 := Lib.hid q2
    have HAl := Lib.hid q3
    have HSs : Hid (∀ k, sumN (numRL l) (k + 1) = sumN (numRL l) k + (3 + gz (numRL l) k)) := fun k => sumN_succ _ k
    have HAs : Hid (∀ k, abvZ (numRL l) (k + 1) = abvZ (numRL l) k + ltTwo (-gz (numRL l) k)) := fun k => abv_succ _ k
    have HL : Hid ((numRL l).length ≤ 1000) := by show _ ≤ _; omega
    have HS0 : Hid (sumN (numRL l) 0 = 0 ∧ abvZ (numRL l) 0 = 0) := ⟨rfl, rfl⟩
    clear hk q1 q2 q3
    generalize numRL l = m at *
    go_wp2_with fail
    refine Calls.mono (C1.out _ _ (Hf.out.below (by go_grown)) (HG.out.below (by go_grown))) ?_
    rintro e w2 ⟨v2, rfl, hI2, hb2⟩
    have hB2 := belowTo (a := w1) (by go_grown) hb2
    replace Hf := Lib.hid (Hf.out.below hB2)
    replace HG := Lib.hid (HG.out.below hB2)
    replace HB := Lib.hid (belowTo HB.out hB2)
    clear hb2 hB2
    have Ho := Lib.hid (Ints.reads hI2 (by have := HL.out; omega))
    clear hI2
    go_wp2_with fail
    refine Calls.mono (C2.out _ _ (Hf.out.below (by go_grown)) (HG.out.below (by go_grown))) ?_
    rintro e w3 ⟨v3, rfl, hI3, hb3⟩
    have hB3 := belowTo (a := w2) (by go_grown) hb3
    replace Hf := Lib.hid (Hf.out.below hB3)
    replace Ho := Lib.hid (Ho.out.below hB3)
    replace HG := Lib.hid (HG.out.below hB3)
    replace HB := Lib.hid (belowTo HB.out hB3)
    clear hb3 hB3
    have Ho2 := Lib.hid (Ints.reads hI3 (by have := HL.out; omega))
    clear hI3
    go_wp2_with fail
    refine Calls.mono (sameInts_eq _ _ _ _ (Ho.out.below (by go_grown)) (Ho2.out.below (by go_grown))) ?_
    rintro e w4 ⟨rfl, hb4⟩
    have hB4 := belowTo (a := w3) (by go_grown) hb4
    replace Hf := Lib.hid (Hf.out.below hB4)
    replace Ho := Lib.hid (Ho.out.below hB4)
    replace Ho2 := Lib.hid (Ho2.out.below hB4)
    replace HG := Lib.hid (HG.out.below hB4)
    replace HB := Lib.hid (belowTo HB.out hB4)
    clear hb4 hB4
    clear Ho2
    obtain ⟨va, vc, rfl, _⟩ := Hf.out
    obtain ⟨ob, oo, oc, rfl, -, hob, hos⟩ := Ho.out.open (by omega)
    have Hos := Lib.hid hos
    clear hos
    generalize sumN m = S at *
    generalize abvZ m = T at *
    obtain ⟨n, hn⟩ : ∃ n, n = m.length := ⟨_, rfl⟩
    rw [← hn] at HQ1 HS12 HAl Hos Ho q0 q0x ⊢
    clear hn HL
    have hfl := h20
    go_wp2
    go_loopw [8, 9, 10] (fun s8 s9 s10 wr => ∃ k : Nat, k ≤ n ∧ s10 = .int .i64 k ∧ s8 = .int .i64 (S k) ∧ s9 = .int .i64 (T k) ∧ Hid ((0 ≤ S k ∧ S k ≤ 2000003 * (k : Int)) ∧ 0 ≤ T k ∧ T k ≤ (k : Int)) ∧ Hid (Below w4.heap.size w4 wr)) (fun s8 s9 s10 _ => n - (intOf s10).toNat)
    case atStart => exact ⟨0, Nat.zero_le _, rfl, by rw [HS0.out.1], by rw [HS0.out.2], ⟨by rw [HS0.out.1]; omega, by rw [HS0.out.2]; omega⟩, by show Below _ _ _; go_grown⟩
    case round =>
      obtain ⟨k, hk, rfl, rfl, rfl, HBd, HBr⟩ := hrel
      have i1 : (0 : Int) ≤ (k : Int) := by omega
      by_cases hlt : k < n
      · have i2 : (k : Int) < (n : Int) := by omega
        have cu := Hos.out wr HBr.out k hlt
        have bq := HQ1.out k hlt
        have es := HSs.out k
        have ea := HAs.out k
        obtain ⟨⟨b1, b2⟩, b3, b4⟩ := HBd.out
        have lo := Nat.lt_of_lt_of_le hob HBr.out.size
        generalize gz m k = g at *
        have g1 : ¬ g < -2 := by omega
        have wa : IntKind.i64.wrap (S k + 3) = S k + 3 := by rw [IntKind.wrap_i64]; omega
        have wb : IntKind.i64.wrap (S k + 3 + g) = S k + 3 + g := by rw [IntKind.wrap_i64]; omega
        have wc : IntKind.i64.wrap (T k + 1) = T k + 1 := by rw [IntKind.wrap_i64]; omega
        have HE1 : Hid (S k + 3 + g = S (k + 1)) := by show _ = _; omega
        clear Hos HQ1 HSs HAs HS0 HBd
        by_cases hg : -2 < g
        · have hl : ltTwo (-g) = 1 := by unfold ltTwo; rw [if_pos (by omega)]
          rw [hl] at ea
          have HE2 : Hid (T k + 1 = T (k + 1)) := by show _ = _; omega
          have HBd : Hid ((0 ≤ S (k + 1) ∧ S (k + 1) ≤ 2000003 * ((k + 1 : Nat) : Int)) ∧ 0 ≤ T (k + 1) ∧ T (k + 1) ≤ ((k + 1 : Nat) : Int)) := by
            refine ⟨⟨?_, ?_⟩, ?_, ?_⟩ <;> omega
          clear hl es ea b1 b2 b3 b4 bq
          go_wp2
          go_roundw
          case rel => exact ⟨k + 1, by omega, by go_num, by rw [HE1.out], by rw [HE2.out], HBd, HBr⟩
          case measure => simp [intOf]; omega
        · have hl : ltTwo (-g) = 0 := by unfold ltTwo; rw [if_neg (by omega)]
          rw [hl] at ea
          have HE2 : Hid (T k = T (k + 1)) := by show _ = _; omega
          have HBd : Hid ((0 ≤ S (k + 1) ∧ S (k + 1) ≤ 2000003 * ((k + 1 : Nat) : Int)) ∧ 0 ≤ T (k + 1) ∧ T (k + 1) ≤ ((k + 1 : Nat) : Int)) := by
            refine ⟨⟨?_, ?_⟩, ?_, ?_⟩ <;> omega
          clear hl es ea b1 b2 b3 b4 bq
          go_wp2
          go_roundw
          case rel => exact ⟨k + 1, by omega, by go_num, by rw [HE1.out], by rw [HE2.out], HBd, HBr⟩
          case measure => simp [intOf]; omega
      · have hkn : k = n := by omega
        obtain ⟨w5, hw5⟩ : ∃ w5, w5 = wr := ⟨_, rfl⟩
        subst hw5
        have hB5 := HBr.out
        have i2 : ¬ (k : Int) < (n : Int) := by omega
        replace Hf := Lib.hid (Hf.out.below hB5)
        replace Ho := Lib.hid (Ho.out.below hB5)
        replace HG := Lib.hid (HG.out.below hB5)
        replace HB := Lib.hid (belowTo HB.out hB5)
        clear HBr hB5
        have e1 : S k = 12 := by rw [hkn]; exact HS12.out
        have e2 : T k = (l.length : Int) := by rw [hkn]; exact HAl.out
        rw [e1, e2]
        clear e1 e2 HBd HSs HAs HS0 HQ1 Hos
        go_wp2
        go_returns
        exact ⟨rfl, HB.out⟩
end Go.Proofs.YtgaeibibeekclabGreatDoor
