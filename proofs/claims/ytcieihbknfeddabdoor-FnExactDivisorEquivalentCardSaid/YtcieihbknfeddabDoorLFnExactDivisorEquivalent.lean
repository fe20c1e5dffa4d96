/- DivisorEquivalent: the model, the walk, the row, merged into one text. -/
import Derived.Test.YtcieihbknfeddabDoorBf
import Derived.Test.YtcieihbknfeddabDoorQu
import Derived.Test.YtcieihbknfeddabDoorQ6
import Derived.Test.YtcieihbknfeddabDoorQl
import Derived.Test.YtcieihbknfeddabDoorRowW
import Derived.Test.YtcieihbknfeddabDoorRf
namespace Go.Proofs.YtcieihbknfeddabDoor
open Go.RowKit

theorem pair_is {l : List V2} {a b : List Int} (ha : divB l a = true) (hb : divB l b = true) : eqvDB l a b = sameB (plainL l a).length (gz (plainL l a)) (gz (plainL l b)) := by
  have h1 := div_in ha
  have h2 := div_in hb
  have h3 := smooth_len h1.1
  unfold eqvDB
  rw [ha, hb, Bool.true_and, Bool.true_and, plain_len, h1.2.1]
  exact (equiv_is (by omega) h1.2.1 h2.2.1).symm
set_option maxHeartbeats 8000000 in
theorem specDivisorEquivalent_any (v : Value) (l : List V2) (u1 : Value) (a : List Int) (u2 : Value) (b : List Int) (w : World) (hl : ReadsVecs w v l) (h1 : ReadsInts w u1 a) (h2 : ReadsInts w u2 b) :
    Calls Tryd.prog 42 #[v, u1, u2] w fun e w' => e = .returned (.bool (eqvDB l a b)) ∧ Below w.heap.size w w' := by
  have HA := Lib.hid (specDivisorIn_any v l u1 a w hl h1)
  have HB := Lib.hid (fun w' (hb : Below w.heap.size w w') => specDivisorIn_any v l u2 b w' (hl.below hb) (h2.below hb))
  have HS := Lib.hid (fun w' (hb : Below w.heap.size w w') (ha : divB l a = true) => l4Plain_any v u1 l a w' (hl.below hb) (h1.below hb) (div_in ha).2.1 (by have := div_len ha; omega) (div_len ha).2 (div_smooth ha).1 (bnd_mono (div_bnd ha) (by omega)))
  have HT := Lib.hid (fun w' (hb : Below w.heap.size w w') (ha : divB l b = true) => l4Plain_any v u2 l b w' (hl.below hb) (h2.below hb) (div_in ha).2.1 (by have := div_len ha; omega) (div_len ha).2 (div_smooth ha).1 (bnd_mono (div_bnd ha) (by omega)))
  have HP := fun (ha : divB l a = true) (hb : divB l b = true) => pair_is ha hb
  have HL : divB l a = true → divB l b = true → (plainL l b).length = (plainL l a).length ∧ 0 < (plainL l a).length ∧ (plainL l a).length ≤ 20 := fun ha hb => by
    rw [plain_len, plain_len]
    have := div_len ha
    have := (div_in ha).2.1
    have := (div_in hb).2.1
    omega
  clear hl h1 h2
  cases ha : divB l a
  · have e0 : eqvDB l a b = false := by unfold eqvDB; rw [ha]; rfl
    rw [e0]
    rw [ha] at HA
    clear ha HS HT HB HP HL e0
    go_enter Tryd.func42, Tryd.ntmps42
    go_wp2_with fail
    refine Calls.mono HA.out ?_
    rintro e w1 ⟨rfl, hb1⟩
    go_wp2
    go_returns
    exact ⟨rfl, by go_grown⟩
  · cases hb : divB l b
    · have e0 : eqvDB l a b = false := by unfold eqvDB; rw [hb, Bool.false_and, Bool.and_false]
      rw [e0]
      rw [ha] at HA
      rw [hb] at HB
      clear ha hb HS HT HP HL e0
      go_enter Tryd.func42, Tryd.ntmps42
      go_wp2_with fail
      refine Calls.mono HA.out ?_
      rintro e w1 ⟨rfl, hb1⟩
      go_wp2_with fail
      refine Calls.mono (HB.out _ hb1) ?_
      rintro e w2 ⟨rfl, hb2⟩
      have hB := belowTo hb1 hb2
      clear hb1 hb2
      go_wp2
      go_returns
      exact ⟨rfl, by go_grown⟩
    · rw [HP ha hb]
      obtain ⟨e1, e2, e3⟩ := HL ha hb
      rw [ha] at HA
      rw [hb] at HB
      have HS2 := Lib.hid (fun w' h => HS.out w' h ha)
      have HT2 := Lib.hid (fun w' h => HT.out w' h hb)
      clear ha hb HS HT HP HL
      generalize plainL l a = P at *
      generalize plainL l b = R at *
      have E1 := Lib.hid e1
      clear e1
      have KF := Lib.hid (fun k (hk : k < P.length) (h : gz P k ≠ gz R k) => same_false (X := gz P) (Y := gz R) hk h)
      have KT := Lib.hid (fun (h : ∀ j, j < P.length → gz P j = gz R j) => same_true (X := gz P) (Y := gz R) h)
      generalize sameB P.length (gz P) (gz R) = K at *
      go_enter Tryd.func42, Tryd.ntmps42
      go_wp2_with fail
      refine Calls.mono HA.out ?_
      rintro e w1 ⟨rfl, hb1⟩
      go_wp2_with fail
      refine Calls.mono (HB.out _ hb1) ?_
      rintro e w2 ⟨rfl, hb2⟩
      have hB := belowTo hb1 hb2
      clear hb1 hb2
      go_wp2_with fail
      refine Calls.mono (HS2.out _ hB) ?_
      rintro e w3 ⟨v3, rfl, hI, hb3⟩
      have hB3 := belowTo hB hb3
      clear hb3 hB
      go_wp2_with fail
      refine Calls.mono (HT2.out _ hB3) ?_
      rintro e w4 ⟨v4, rfl, hJ, hb4⟩
      have hB4 := belowTo hB3 hb4
      have rI := (hI.below hb4).reads (by omega)
      have rJ := hJ.reads (by rw [E1.out]; omega)
      obtain ⟨p1, o1, k1, rfl, _, hp1, hcs1⟩ := rI.open e2
      obtain ⟨p2, o2, k2, rfl, _, hp2, hcs2⟩ := rJ.open (by rw [E1.out]; exact e2)
      rw [E1.out] at hcs2
      rw [E1.out]
      have HX := Lib.hid hcs1
      have HY := Lib.hid hcs2
      have HAB := Lib.hid hB4
      have hB0 := Below.refl w4.heap.size w4
      clear hI hJ rI rJ hb4 hB3 hB4 hcs1 hcs2 E1 e2 HA HB HS2 HT2
      generalize gz P = X at *
      generalize gz R = Y at *
      generalize P.length = n at *
      go_wp2
      go_loopw [9] (fun s wr => ∃ k : Nat, k ≤ n ∧ s = .int .i64 k ∧ Hid (∀ j, j < k → X j = Y j) ∧ Below w4.heap.size w4 wr) (fun s _ => n - (intOf s).toNat)
      case atStart => exact ⟨0, Nat.zero_le _, rfl, fun j hj => by omega, Below.refl _ _⟩
      case round =>
        obtain ⟨k, hk, rfl, hE, hB⟩ := hrel
        have i1 : (0 : Int) ≤ (k : Int) := by omega
        by_cases hlt : k < n
        · have i2 : (k : Int) < (n : Int) := by omega
          have c1 := HX.out wr hB k hlt
          have c2 := HY.out wr hB k hlt
          have HN := Lib.hid (fun h => KF.out k hlt h)
          have HK : Hid (X k = Y k → ∀ j, j < k + 1 → X j = Y j) := fun h j hj => by
            by_cases e : j = k
            · subst e; exact h
            · exact hE.out j (by omega)
          have hBd : Below w4.heap.size w4 wr.drew := hB.trans (by go_grown)
          generalize X k = p at *
          generalize Y k = q at *
          by_cases hpq : p = q
          · subst hpq
            have HK2 := Lib.hid (HK.out rfl)
            clear HX HY HN HK hE KF KT
            go_wp2
            refine wp_region_any (by kernel_rfl) ?_
            try (change wpAny _ _ _ _ _ _ _ (World.drew _))
            refine wpAny_take (i := 0) (v := ?_) rfl (by kernel_rfl) (by kernel_rfl) (by kernel_rfl) (fun _ _ _ h => h) (Or.inl ⟨by rfl, ?_⟩) ?_
            rotate_left
            focus (intro w0; go_simp; try with_reducible rfl)
            refine wpAny_take (i := 1) (v := ?_) rfl (by kernel_rfl) (by kernel_rfl) (by kernel_rfl) (fun _ _ _ h => h) (Or.inl ⟨by rfl, ?_⟩) ?_
            rotate_left
            focus (intro w0; go_simp; try with_reducible rfl)
            refine wpAny_take (i := 2) (v := ?_) rfl (by kernel_rfl) (by kernel_rfl) (by kernel_rfl) (fun _ _ _ h => h) (Or.inl ⟨by rfl, ?_⟩) ?_
            rotate_left
            focus (intro w0; go_simp; try with_reducible rfl)
            refine wpAny_take (i := 4) (v := ?_) rfl (by kernel_rfl) (by kernel_rfl) (by kernel_rfl) (fun _ _ _ h => h) (Or.inl ⟨by rfl, ?_⟩) ?_
            rotate_left
            focus (intro w0; go_simp; try with_reducible rfl)
            refine wpAny_take (i := 5) (v := ?_) rfl (by kernel_rfl) (by kernel_rfl) (by kernel_rfl) (fun _ _ _ h => h) (Or.inl ⟨by rfl, ?_⟩) ?_
            rotate_left
            focus (intro w0; go_simp; try with_reducible rfl)
            refine wpAny_take (i := 6) (v := ?_) rfl (by kernel_rfl) (by kernel_rfl) (by kernel_rfl) (fun _ _ _ h => h) (Or.inl ⟨by rfl, ?_⟩) ?_
            rotate_left
            focus (intro w0; go_simp; try with_reducible rfl)
            refine wpAny_ready (rs := [3, 7]) (by kernel_rfl) (by simp) (AllReady.cons rfl (fun K hK => ?_) (AllReady.cons rfl (fun K hK => ?_) (AllReady.nil)))
            focus
              go_simp
              refine hK _ _ ?_
              clear hK K
              refine wpAny_ready (rs := [7]) (by kernel_rfl) (by simp) (AllReady.cons rfl (fun K hK => ?_) (AllReady.nil))
              go_simp
              refine hK _ _ ?_
              clear hK K
              refine wpAny_seq 8 rfl (by kernel_rfl) ?_
              simp only [List.drop_succ_cons, List.drop_zero]
            rotate_left 1
            focus
              go_simp
              refine hK _ _ ?_
              clear hK K
              refine wpAny_ready (rs := [3]) (by kernel_rfl) (by simp) (AllReady.cons rfl (fun K hK => ?_) (AllReady.nil))
              go_simp
              refine hK _ _ ?_
              clear hK K
              refine wpAny_seq 8 rfl (by kernel_rfl) ?_
              simp only [List.drop_succ_cons, List.drop_zero]
            all_goals
              go_wp2
              go_roundw
              case rel => exact ⟨k + 1, by omega, by go_num, HK2, hBd⟩
              case measure => simp [intOf]; omega
          · have hq1 : (p == q) = false := by simpa using hpq
            have hq2 : (p != q) = true := by simp [bne, hq1]
            have HF := Lib.hid (HN.out hpq)
            have hA := belowTo HAB.out hBd
            clear HX HY HN HK hE KF KT
            go_wp2
            refine wp_region_any (by kernel_rfl) ?_
            try (change wpAny _ _ _ _ _ _ _ (World.drew _))
            refine wpAny_take (i := 0) (v := ?_) rfl (by kernel_rfl) (by kernel_rfl) (by kernel_rfl) (fun _ _ _ h => h) (Or.inl ⟨by rfl, ?_⟩) ?_
            rotate_left
            focus (intro w0; go_simp; try with_reducible rfl)
            refine wpAny_take (i := 1) (v := ?_) rfl (by kernel_rfl) (by kernel_rfl) (by kernel_rfl) (fun _ _ _ h => h) (Or.inl ⟨by rfl, ?_⟩) ?_
            rotate_left
            focus (intro w0; go_simp; try with_reducible rfl)
            refine wpAny_take (i := 2) (v := ?_) rfl (by kernel_rfl) (by kernel_rfl) (by kernel_rfl) (fun _ _ _ h => h) (Or.inl ⟨by rfl, ?_⟩) ?_
            rotate_left
            focus (intro w0; go_simp; try with_reducible rfl)
            refine wpAny_take (i := 4) (v := ?_) rfl (by kernel_rfl) (by kernel_rfl) (by kernel_rfl) (fun _ _ _ h => h) (Or.inl ⟨by rfl, ?_⟩) ?_
            rotate_left
            focus (intro w0; go_simp; try with_reducible rfl)
            refine wpAny_take (i := 5) (v := ?_) rfl (by kernel_rfl) (by kernel_rfl) (by kernel_rfl) (fun _ _ _ h => h) (Or.inl ⟨by rfl, ?_⟩) ?_
            rotate_left
            focus (intro w0; go_simp; try with_reducible rfl)
            refine wpAny_take (i := 6) (v := ?_) rfl (by kernel_rfl) (by kernel_rfl) (by kernel_rfl) (fun _ _ _ h => h) (Or.inl ⟨by rfl, ?_⟩) ?_
            rotate_left
            focus (intro w0; go_simp; try with_reducible rfl)
            refine wpAny_ready (rs := [3, 7]) (by kernel_rfl) (by simp) (AllReady.cons rfl (fun K hK => ?_) (AllReady.cons rfl (fun K hK => ?_) (AllReady.nil)))
            focus
              go_simp
              refine hK _ _ ?_
              clear hK K
              refine wpAny_ready (rs := [7]) (by kernel_rfl) (by simp) (AllReady.cons rfl (fun K hK => ?_) (AllReady.nil))
              go_simp
              refine hK _ _ ?_
              clear hK K
              refine wpAny_seq 8 rfl (by kernel_rfl) ?_
              simp only [List.drop_succ_cons, List.drop_zero]
            rotate_left 1
            focus
              go_simp
              refine hK _ _ ?_
              clear hK K
              refine wpAny_ready (rs := [3]) (by kernel_rfl) (by simp) (AllReady.cons rfl (fun K hK => ?_) (AllReady.nil))
              go_simp
              refine hK _ _ ?_
              clear hK K
              refine wpAny_seq 8 rfl (by kernel_rfl) ?_
              simp only [List.drop_succ_cons, List.drop_zero]
            all_goals
              go_wp2
              go_returns
              exact ⟨by rw [HF.out]; rfl, hA⟩
        · obtain rfl : k = n := by omega
          have i2 : ¬ (k : Int) < (k : Int) := by omega
          have HT := Lib.hid (KT.out hE.out)
          have hA := belowTo HAB.out hB
          go_wp2
          go_returns
          exact ⟨by rw [HT.out]; rfl, hA⟩

set_option maxHeartbeats 16000000 in
theorem exactDivisorEquivalent_any (v : Value) (l : List V2) (u1 u2 : Value) (d1 d2 : List Int) (w : World) (h : ReadsVecs w v l) (h1 : ReadsInts w u1 d1) (h2 : ReadsInts w u2 d2) (hg : EtOk w)
    (hl : l.length ≤ 1048576) (k1 : d1.length ≤ 1048576) (k2 : d2.length ≤ 1048576) :
    Calls Tryd.prog 11 #[v, u1, u2] w fun e w' => e = .returned (.bool true) ∧ Below w.heap.size w w' := by
  have h' := h
  obtain ⟨a, c, rfl, _, hm0, _⟩ := h'
  have h1' := h1
  obtain ⟨a1, c1, rfl, _, _⟩ := h1'
  have h2' := h2
  obtain ⟨a2, c2, rfl, _, _⟩ := h2'
  have HZ := Lib.hid (fun w' => szVecS_any a l.length c w' (by omega))
  rw [if_pos hl] at HZ
  have HT := Lib.hid (fun w' h' => toVecS_any (.slice a l.length c) l w' h' hl)
  have HT1 := Lib.hid (fun w' h' => toIntS_any (.slice a1 d1.length c1) d1 w' h' k1)
  have HT2 := Lib.hid (fun w' h' => toIntS_any (.slice a2 d2.length c2) d2 w' h' k2)
  have HS := Lib.hid (fun v' w' h' u1' i1' u2' i2' => specDivisorEquivalent_any v' l u1' d1 u2' d2 w' h' i1' i2')
  have HM := Lib.hid (fun v' w' h' u1' i1' u2' i2' hg' => divisorEquivalent_any v' l u1' d1 u2' d2 w' h' i1' i2' hg')
  have HX := Lib.hid (fun v1 v2 b1 b2 w' h1 h2 => eqVecS_same v1 v2 b1 b2 l w' h1 h2)
  have HX1 := Lib.hid (fun v1 v2 b1 b2 w' h1 h2 => eqIntS_same v1 v2 b1 b2 d1 w' h1 h2)
  have HX2 := Lib.hid (fun v1 v2 b1 b2 w' h1 h2 => eqIntS_same v1 v2 b1 b2 d2 w' h1 h2)
  have HR := Lib.hid (fun (w' : World) (b : Nat) (v' : Value) (h' : Vecs w' b v' l) => h'.reads (by omega))
  have HR1 := Lib.hid (fun (w' : World) (b : Nat) (v' : Value) (h' : Ints w' b v' d1) => h'.reads (by omega))
  have HR2 := Lib.hid (fun (w' : World) (b : Nat) (v' : Value) (h' : Ints w' b v' d2) => h'.reads (by omega))
  have HH := Lib.hid h
  have HH0 := Lib.hid h
  have J1 := Lib.hid h1
  have J10 := Lib.hid h1
  have J2 := Lib.hid h2
  have J20 := Lib.hid h2
  have hz0 : ¬ 1048576 - (l.length : Int) < 0 := by omega
  have hy1 : (d1.length : Int) ≤ 1048576 := by omega
  have hy2 : (d2.length : Int) ≤ 1048576 := by omega
  generalize eqvDB l d1 d2 = K at HS HM
  clear h hl hm0 h1 k1 h2 k2
  generalize l.length = n at *
  generalize d1.length = m1 at *
  generalize d2.length = m2 at *
  go_enter Tryd.func11, Tryd.ntmps11
  go_wp2_with fail
  refine Calls.mono (HZ.out _) ?_
  rintro e w0 ⟨rfl, rfl⟩
  have hA : Below w.heap.size w w := Below.refl _ _
  go_wp2_with fail
  refine Calls.mono (HT.out _ HH.out) ?_
  rintro e w1 ⟨va, rfl, Iva, hb1⟩
  replace HH := Lib.hid (HH.out.below hb1)
  replace J1 := Lib.hid (J1.out.below hb1)
  replace J2 := Lib.hid (J2.out.below hb1)
  replace Iva := Lib.hid Iva
  replace hA := belowTo hA hb1
  clear hb1
  go_wp2_with fail
  refine Calls.mono (HT1.out _ J1.out) ?_
  rintro e w2 ⟨va1, rfl, Iva1, hb2⟩
  replace HH := Lib.hid (HH.out.below hb2)
  replace J1 := Lib.hid (J1.out.below hb2)
  replace J2 := Lib.hid (J2.out.below hb2)
  replace Iva := Lib.hid (Iva.out.below hb2)
  replace Iva1 := Lib.hid Iva1
  replace hA := belowTo hA hb2
  clear hb2
  go_wp2_with fail
  refine Calls.mono (HT2.out _ J2.out) ?_
  rintro e w3 ⟨va2, rfl, Iva2, hb3⟩
  replace HH := Lib.hid (HH.out.below hb3)
  replace J1 := Lib.hid (J1.out.below hb3)
  replace J2 := Lib.hid (J2.out.below hb3)
  replace Iva := Lib.hid (Iva.out.below hb3)
  replace Iva1 := Lib.hid (Iva1.out.below hb3)
  replace Iva2 := Lib.hid Iva2
  replace hA := belowTo hA hb3
  clear hb3
  go_wp2_with fail
  refine Calls.mono (HS.out _ _ (HR.out _ _ _ Iva.out) _ (HR1.out _ _ _ Iva1.out) _ (HR2.out _ _ _ Iva2.out)) ?_
  rintro e w4 ⟨rfl, hb4⟩
  replace HH := Lib.hid (HH.out.below hb4)
  replace J1 := Lib.hid (J1.out.below hb4)
  replace J2 := Lib.hid (J2.out.below hb4)
  replace hA := belowTo hA hb4
  clear hb4 Iva Iva1 Iva2
  go_wp2_with fail
  refine Calls.mono (HT.out _ HH.out) ?_
  rintro e w5 ⟨vx, rfl, Ivx, hb5⟩
  replace HH := Lib.hid (HH.out.below hb5)
  replace J1 := Lib.hid (J1.out.below hb5)
  replace J2 := Lib.hid (J2.out.below hb5)
  replace Ivx := Lib.hid Ivx
  replace hA := belowTo hA hb5
  clear hb5
  go_wp2_with fail
  refine Calls.mono (HT1.out _ J1.out) ?_
  rintro e w6 ⟨vx1, rfl, Ivx1, hb6⟩
  replace HH := Lib.hid (HH.out.below hb6)
  replace J1 := Lib.hid (J1.out.below hb6)
  replace J2 := Lib.hid (J2.out.below hb6)
  replace Ivx := Lib.hid (Ivx.out.below hb6)
  replace Ivx1 := Lib.hid Ivx1
  replace hA := belowTo hA hb6
  clear hb6
  go_wp2_with fail
  refine Calls.mono (HT2.out _ J2.out) ?_
  rintro e w7 ⟨vx2, rfl, Ivx2, hb7⟩
  replace HH := Lib.hid (HH.out.below hb7)
  replace J1 := Lib.hid (J1.out.below hb7)
  replace J2 := Lib.hid (J2.out.below hb7)
  replace Ivx := Lib.hid (Ivx.out.below hb7)
  replace Ivx1 := Lib.hid (Ivx1.out.below hb7)
  replace Ivx2 := Lib.hid Ivx2
  replace hA := belowTo hA hb7
  clear hb7
  go_wp2_with fail
  refine Calls.mono (HM.out _ _ (HR.out _ _ _ Ivx.out) _ (HR1.out _ _ _ Ivx1.out) _ (HR2.out _ _ _ Ivx2.out) (hg.below hA)) ?_
  rintro e w8 ⟨rfl, hb8⟩
  replace HH := Lib.hid (HH.out.below hb8)
  replace J1 := Lib.hid (J1.out.below hb8)
  replace J2 := Lib.hid (J2.out.below hb8)
  replace Ivx := Lib.hid (Ivx.out.below hb8)
  replace Ivx1 := Lib.hid (Ivx1.out.below hb8)
  replace Ivx2 := Lib.hid (Ivx2.out.below hb8)
  replace hA := belowTo hA hb8
  clear hb8
  go_wp2_with fail
  refine Calls.mono (HT.out _ HH.out) ?_
  rintro e w9 ⟨vy0, rfl, Iy0, hb9⟩
  replace HH := Lib.hid (HH.out.below hb9)
  replace J1 := Lib.hid (J1.out.below hb9)
  replace J2 := Lib.hid (J2.out.below hb9)
  replace Ivx := Lib.hid (Ivx.out.below hb9)
  replace Ivx1 := Lib.hid (Ivx1.out.below hb9)
  replace Ivx2 := Lib.hid (Ivx2.out.below hb9)
  replace Iy0 := Lib.hid Iy0
  replace hA := belowTo hA hb9
  clear hb9
  go_wp2_with fail
  refine Calls.mono (HX.out _ _ _ _ _ Ivx.out Iy0.out) ?_
  rintro e w10 ⟨rfl, hb10⟩
  replace HH := Lib.hid (HH.out.below hb10)
  replace J1 := Lib.hid (J1.out.below hb10)
  replace J2 := Lib.hid (J2.out.below hb10)
  replace Ivx1 := Lib.hid (Ivx1.out.below hb10)
  replace Ivx2 := Lib.hid (Ivx2.out.below hb10)
  replace hA := belowTo hA hb10
  clear hb10 Iy0 Ivx
  go_wp2_with fail
  refine Calls.mono (HT1.out _ J1.out) ?_
  rintro e w11 ⟨vy1, rfl, Iy1, hb11⟩
  replace HH := Lib.hid (HH.out.below hb11)
  replace J1 := Lib.hid (J1.out.below hb11)
  replace J2 := Lib.hid (J2.out.below hb11)
  replace Ivx1 := Lib.hid (Ivx1.out.below hb11)
  replace Ivx2 := Lib.hid (Ivx2.out.below hb11)
  replace Iy1 := Lib.hid Iy1
  replace hA := belowTo hA hb11
  clear hb11
  go_wp2_with fail
  refine Calls.mono (HX1.out _ _ _ _ _ Ivx1.out Iy1.out) ?_
  rintro e w12 ⟨rfl, hb12⟩
  replace HH := Lib.hid (HH.out.below hb12)
  replace J1 := Lib.hid (J1.out.below hb12)
  replace J2 := Lib.hid (J2.out.below hb12)
  replace Ivx2 := Lib.hid (Ivx2.out.below hb12)
  replace hA := belowTo hA hb12
  clear hb12 Iy1 Ivx1
  go_wp2_with fail
  refine Calls.mono (HT2.out _ J2.out) ?_
  rintro e w13 ⟨vy2, rfl, Iy2, hb13⟩
  replace HH := Lib.hid (HH.out.below hb13)
  replace J1 := Lib.hid (J1.out.below hb13)
  replace J2 := Lib.hid (J2.out.below hb13)
  replace Ivx2 := Lib.hid (Ivx2.out.below hb13)
  replace Iy2 := Lib.hid Iy2
  replace hA := belowTo hA hb13
  clear hb13
  go_wp2_with fail
  refine Calls.mono (HX2.out _ _ _ _ _ Ivx2.out Iy2.out) ?_
  rintro e w14 ⟨rfl, hb14⟩
  replace HH := Lib.hid (HH.out.below hb14)
  replace J1 := Lib.hid (J1.out.below hb14)
  replace J2 := Lib.hid (J2.out.below hb14)
  replace hA := belowTo hA hb14
  clear hb14 Iy2 Ivx2
  go_wp2
  go_returns
  exact ⟨rfl, hA⟩
set_option maxHeartbeats 4000000 in
theorem exactDivisorEquivalent_row (a : Option Addr) (len cap : Nat) (a1 : Option Addr) (len1 cap1 : Nat) (a2 : Option Addr) (len2 cap2 : Nat) (w : World) (h : VecRow w a len cap) (h1 : IntRow w a1 len1 cap1) (h2 : IntRow w a2 len2 cap2) (hg : EtOk w) :
    Calls Tryd.prog 11 #[.slice a len cap, .slice a1 len1 cap1, .slice a2 len2 cap2] w fun e w' => e = .returned (.bool true) ∧ Below w.heap.size w w' := by
  by_cases g1 : len1 ≤ 1048576
  case neg =>
    have j1 : (1048576 : Int) < (len1 : Int) := by omega
    clear h hg h1 h2
    go_enter Tryd.func11, Tryd.ntmps11
    go_wp2
    go_returns
    exact ⟨rfl, by go_grown⟩
  case pos =>
    by_cases g2 : len2 ≤ 1048576
    case neg =>
      have j2 : (1048576 : Int) < (len2 : Int) := by omega
      have j1 : (len1 : Int) ≤ 1048576 := by omega
      clear h hg h1 h2
      go_enter Tryd.func11, Tryd.ntmps11
      go_wp2
      go_returns
      exact ⟨rfl, by go_grown⟩
    case pos =>
      by_cases hl : len ≤ 1048576
      · obtain ⟨l, rfl, hr⟩ := h.reads hl
        obtain ⟨d1, rfl, hr1⟩ := h1.reads g1
        obtain ⟨d2, rfl, hr2⟩ := h2.reads g2
        exact exactDivisorEquivalent_any _ l _ _ d1 d2 w hr hr1 hr2 hg hl g1 g2
      · have HZ := Lib.hid (fun w' => szVecS_any a len cap w' h.le_max)
        rw [if_neg hl] at HZ
        have j1 : (len1 : Int) ≤ 1048576 := by omega
        have j2 : (len2 : Int) ≤ 1048576 := by omega
        clear h hg h1 h2
        go_enter Tryd.func11, Tryd.ntmps11
        go_wp2_with fail
        refine Calls.mono (HZ.out _) ?_
        rintro e w1 ⟨rfl, rfl⟩
        go_wp2
        go_returns
        exact ⟨rfl, by go_grown⟩
end Go.Proofs.YtcieihbknfeddabDoor
namespace Go.Proofs.YtcieihbknfeddabDoor.fnExactDivisorEquivalent
open Go.ChangeShapes Go.WideShapes Go.ChangeAt Go.RowKit Go.Joins

set_option maxRecDepth 100000 in
theorem contract (H : Type) (enc : TypeId × Value → H) (W : World) (base : Nat) (args : Array Value) (ds gs : List (DataW H)) (before : List MemPlace)
    (hval : ∀ (j : Nat) t v, Tryd.f11.params[j]? = some t → args[j]? = some v → Value.okWide Tryd.prog W .any base t v)
    (hW : DataW.Whole enc Tryd.prog Tryd.f11.params.toList Rows.fnExactDivisorEquivalentSpec.vars false W args.toList ds gs before) (hL : laidMetH Tryd.prog Rows.fnExactDivisorEquivalentRow.laid W) :
    Calls Tryd.prog 11 args W fun e W' => ∃ v, e = .returned v ∧ Rows.fnExactDivisorEquivalentSpec.post enc Tryd.prog Tryd.f11 false true false false W args v W' := by
  have hW' := hW
  obtain ⟨p, q, hA0, hV, rfl, hfz, hnd⟩ := hW
  have hA : DataW.TrodAll enc Tryd.prog W 0 (fun _ => true) true Tryd.f11.params.toList args.toList ds p := hA0
  rw [Tryd.params11] at hA hval
  obtain ⟨v0, vs0, d0, ds0, p0, q0, hargs, rfl, rfl, h0, r0⟩ := trodAll_cons hA
  obtain ⟨v1, vs1, d1, ds1, p1, q1, rfl, rfl, rfl, h1, r1⟩ := trodAll_cons r0
  obtain ⟨v2, vs2, d2, ds2, p2, q2, rfl, rfl, rfl, h2, r2⟩ := trodAll_cons r1
  obtain ⟨rfl, rfl, rfl⟩ := trodAll_nil r2
  obtain rfl : args = #[v0, v1, v2] := by cases args; simp_all
  obtain ⟨rfl, rfl⟩ := trodVars_none hV
  obtain ⟨a0, len0, cap0, rfl⟩ := okWide_slice Tryd.underlying22 (hval 0 22 v0 rfl rfl)
  have k0 := h0
  have lt0 : ∀ x ∈ p0, x.block < W.heap.size := by obtain ⟨m, hm⟩ := k0; exact DataW.trod_lt m _ _ _ hm
  have k1 := h1
  have lt1 : ∀ x ∈ p1, x.block < W.heap.size := by obtain ⟨m, hm⟩ := k1; exact DataW.trod_lt m _ _ _ hm
  have k2 := h2
  have lt2 : ∀ x ∈ p2, x.block < W.heap.size := by obtain ⟨m, hm⟩ := k2; exact DataW.trod_lt m _ _ _ hm
  have w0 : VecRow W a0 len0 cap0 := by
    obtain ⟨fuel, hf⟩ := h0
    exact vecRow_open (by simpa [Value.cells] using hf)
  obtain ⟨a1, len1, cap1, rfl⟩ := okWide_slice Tryd.underlying23 (hval 1 23 v1 rfl rfl)
  have w1 : IntRow W a1 len1 cap1 := by
    obtain ⟨fuel, hf⟩ := h1
    exact intRow_open (by simpa [Value.cells] using hf)
  obtain ⟨a2, len2, cap2, rfl⟩ := okWide_slice Tryd.underlying23 (hval 2 23 v2 rfl rfl)
  have w2 : IntRow W a2 len2 cap2 := by
    obtain ⟨fuel, hf⟩ := h2
    exact intRow_open (by simpa [Value.cells] using hf)
  clear hA0
  refine (exactDivisorEquivalent_row a0 len0 cap0 a1 len1 cap1 a2 len2 cap2 W w0 w1 w2 (et_of_laid hL)).mono fun e W' ⟨he, hb⟩ => ?_
  subst he
  exact ⟨_, rfl, _, _, _, [], _, [], hW', trodAll_cons_mk (shut_bool Tryd.underlying4 _) trodAll_mk0, (trodAll_cons_mk (Below.trod laidOut (by kernel_rfl) (of_decide_eq_true (by kernel_rfl)) k0 hb lt0) (trodAll_cons_mk (Below.trod laidOut (by kernel_rfl) (of_decide_eq_true (by kernel_rfl)) k1 hb lt1) (trodAll_cons_mk (Below.trod laidOut (by kernel_rfl) (of_decide_eq_true (by kernel_rfl)) k2 hb lt2) trodAll_mk0))), rfl, hb.frame _, fun h => by cases h⟩

theorem reads (os : Os) {H : Type} (enc : TypeId × Value → H) : ∃ places, DataW.whole enc Tryd.prog ((laidWorld os).forCall (fun _ _ => 0) ⟨#[], #[.slice none 0 0, .slice none 0 0, .slice none 0 0], []⟩).memory Tryd.f11.params.toList Rows.fnExactDivisorEquivalentSpec.vars false (#[.slice none 0 0, .slice none 0 0, .slice none 0 0] : Array Value).toList 8 = some ([.nil, .nil, .nil], [], places) :=
  ⟨[], by kernel_rfl⟩

set_option maxRecDepth 100000 in
theorem lifted (os : Os) (started : os.Started) (H : Type) (enc : TypeId × Value → H) (F : Stop.Interp) :
    ReturnsInHanded {} Tryd.checked os 11 .any ((OpenSpec.ofChange Rows.fnExactDivisorEquivalentSpec).preRow enc Tryd.prog Tryd.f11 Rows.fnExactDivisorEquivalentRow.domain false Rows.fnExactDivisorEquivalentRow.laid) (((OpenSpec.ofChange Rows.fnExactDivisorEquivalentSpec).at F).post enc Tryd.prog Tryd.f11 false true false false) := by
  obtain ⟨places, hx⟩ := reads os enc
  refine returnsInHanded_of_row (C := Tryd.checked) (s := OpenSpec.ofChange Rows.fnExactDivisorEquivalentSpec) own started (by kernel_rfl) Tryd.func11
    (witness_row_at (enc := enc) (C := Tryd.checked) false (laidWorld os) #[.slice none 0 0, .slice none 0 0, .slice none 0 0] rfl (by kernel_rfl) (by kernel_rfl) (by kernel_rfl)
      (OpenSpec.preRow_of_cond 8 hx (by kernel_rfl) (fun k hk => by cases hk) (by kernel_rfl) (laidWorld_met os _))) ?_
  intro W base args ds gs before hval hW _ _ _ hL _ _
  exact contract H enc W base args ds gs before hval hW hL

theorem named : Tryd.prog.funcNamed "loop.example/toricfans/laws.FnExactDivisorEquivalent" = some 11 := by kernel_rfl

theorem said : Rows.FnExactDivisorEquivalentSaid :=
  OpenClaim.holds_of_cond 11 Tryd.f11 rfl rfl rfl rfl rfl rfl rfl ⟨rfl, rfl, rfl, rfl, rfl⟩ rfl rfl rfl rfl rfl named Tryd.func11 ((joinS _ _ _ _ _ may_enter lifts_final make_is).2.trans (by kernel_rfl))
    (of_decide_eq_true (by kernel_rfl)) (by unfold Func.isWrapper; first | (rw [if_pos (by decide +kernel)]; kernel_rfl) | (rw [if_neg (by decide +kernel)]; exact ⟨rfl, rfl⟩))
    (fun os started H enc _ F => by rw [OpenClaim.pre_eq_preRow]; exact lifted os started H enc F)

theorem plain (f : FuncId) (fn : Func) (hf : Tryd.pinned.checked.prog.funcNamed "loop.example/toricfans/laws.FnExactDivisorEquivalent" = some f) (hfn : Tryd.pinned.checked.prog.funcs[f]? = some fn) :
    true = Tryd.pinned.checked.prog.looks [] ∧ ∀ (j : Nat) t, fn.params[j]? = some t → Tryd.pinned.checked.prog.wantsStandIn t = false := by
  obtain rfl : f = 11 := Option.some.inj (named.symm.trans hf) |>.symm
  obtain rfl : fn = Tryd.f11 := (Option.some.inj (Tryd.func11.symm.trans hfn)).symm
  refine ⟨by kernel_rfl, fun j t ht => ?_⟩
  rw [Tryd.params11] at ht
  have hm : t = 22 ∨ t = 23 := by simpa using Array.mem_of_getElem? ht
  rcases hm with rfl | rfl
  · exact (show Tryd.prog.wantsStandIn 22 = false by kernel_rfl)
  · exact (show Tryd.prog.wantsStandIn 23 = false by kernel_rfl)

/-- THE CARD. -/
theorem card : Rows.FnExactDivisorEquivalentCardSaid :=
  Claim7.holds_tied_plain_at .later [] _ _ _ _ said (fun _ h => by cases h) (by kernel_rfl) (fun _ h => by cases h) fnExactDivisorEquivalent_row_tie rfl ⟨rfl, rfl⟩ main_is rfl plain (by kernel_rfl)
end Go.Proofs.YtcieihbknfeddabDoor.fnExactDivisorEquivalent
