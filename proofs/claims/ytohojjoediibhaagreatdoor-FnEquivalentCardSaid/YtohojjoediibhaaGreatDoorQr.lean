/- Divisors made plain, equivalent ones: the model's functions. -/
import Derived.Test.YtohojjoediibhaaGreatDoorBf
import Derived.Test.YtohojjoediibhaaGreatDoorQu
namespace Go.Proofs.YtohojjoediibhaaGreatDoor
open Go.RowKit

theorem pair_is {l : List V2} {a b : List Int} (ha : divB l a = true) (hb : divB l b = true) : eqvDB l a b = sameB (plainL l a).length (gz (plainL l a)) (gz (plainL l b)) := by
  have h1 := div_in ha
  have h2 := div_in hb
  have h3 := smooth_len h1.1
  unfold eqvDB
  rw [ha, hb, Bool.true_and, Bool.true_and, plain_len, h1.2.1]
  exact (equiv_is (by omega) h1.2.1 h2.2.1).symm
set_option maxHeartbeats 4000000 in
theorem specDivisorPlain_any (v : Value) (l : List V2) (u1 : Value) (a : List Int) (w : World) (hl : ReadsVecs w v l) (h1 : ReadsInts w u1 a) :
    Calls Tryz.prog 27 #[v, u1] w (GivesIntsOk w (gV (plnDB l a) (plainL l a)) (plnDB l a)) := by
  have HA := Lib.hid (specDivisorIn_any v l u1 a w hl h1)
  have HE := Lib.hid (fun w' => Ints.empty w')
  have HS := Lib.hid (fun w' (hb : Below w.heap.size w w') (ha : divB l a = true) => l4Plain_any v u1 l a w' (hl.below hb) (h1.below hb) (div_in ha).2.1 (by have := div_len ha; omega) (div_len ha).2 (div_smooth ha).1 (bnd_mono (div_bnd ha) (by omega)))
  have HD := Lib.hid (fun u' b' w' (hb : Below w.heap.size w w') (hI : Ints w' b' u' (plainL l a)) (ha : divB l a = true) (hs : b' ≤ (w' : World).heap.size) => l4Done_any v l u' (plainL l a) b' w' (hl.below hb) hI (by rw [plain_len]; have := div_len ha; have := (div_in ha).2.1; omega) hs)
  unfold plnDB
  clear hl h1
  cases ha : divB l a
  · rw [ha] at HA
    clear ha HS HD
    go_enter Tryz.func27, Tryz.ntmps27
    go_wp2_with fail
    refine Calls.mono HA.out ?_
    rintro e w1 ⟨rfl, hb1⟩
    have hs1 := hb1.size
    have HE2 := Lib.hid ((HE.out w1).lower hs1)
    go_wp2
    go_returns
    exact ⟨_, rfl, HE2.out, by go_grown⟩
  · rw [ha] at HA
    have HS2 := Lib.hid (fun w' h => HS.out w' h ha)
    have HD2 := Lib.hid (fun u' b' w' h hI hs => HD.out u' b' w' h hI ha hs)
    clear ha HS HD
    go_enter Tryz.func27, Tryz.ntmps27
    go_wp2_with fail
    refine Calls.mono HA.out ?_
    rintro e w1 ⟨rfl, hb1⟩
    go_wp2_with fail
    refine Calls.mono (HS2.out _ hb1) ?_
    rintro e w3 ⟨v3, rfl, hI, hb3⟩
    have hB3 := belowTo hb1 hb3
    have hI3 := hI.lower hb1.size
    have hs3 := hB3.size
    clear hI hb3
    go_wp2_with fail
    refine Calls.mono (HD2.out v3 _ _ hB3 hI3 hs3) ?_
    rintro e w4 ⟨v4, rfl, hI4, hb4⟩
    have HI4 := Lib.hid hI4
    have hB4 := belowTo hB3 hb4
    clear hI4 hI3 hb4 hB3
    go_wp2
    go_returns
    exact ⟨_, rfl, HI4.out, hB4⟩
set_option maxHeartbeats 8000000 in
theorem specDivisorEquivalent_any (v : Value) (l : List V2) (u1 : Value) (a : List Int) (u2 : Value) (b : List Int) (w : World) (hl : ReadsVecs w v l) (h1 : ReadsInts w u1 a) (h2 : ReadsInts w u2 b) :
    Calls Tryz.prog 25 #[v, u1, u2] w fun e w' => e = .returned (.bool (eqvDB l a b)) ∧ Below w.heap.size w w' := by
  have HA := Lib.hid (specDivisorIn_any v l u1 a w hl h1)
  have HB := Lib.hid (fun w' (hb : Below w.heap.size w w') => specDivisorIn_any v l u2 b w' (hl.below hb) (h2.below hb))
  have HS := Lib.hid (fun w' (hb : Below w.heap.size w w') (ha : divB l a = true) => l4Plain_any v u1 l a w' (hl.below hb) (h1.below hb) (div_in ha).2.1 (by have := div_len ha; omega) (div_len ha).2 (div_smooth ha).1 (bnd_mono (div_bnd ha) (by omega)))
  have HT := Lib.hid (fun w' (hb : Below w.heap.size w w') (ha : divB l b = true) => l4Plain_any v u2 l b w' (hl.below hb) (h2.below hb) (div_in ha).2.1 (by have := div_len ha; omega) (div_len ha).2 (div_smooth ha).1 (bnd_mono (div_bnd ha) (by omega)))
  have HP := fun (ha : divB l a = true) (hb : divB l b = true) => pair_is ha hb
  have HL : divB l a = true → divB l b = true → (plainL l b).length = (plainL l a).length ∧ 0 < (plainL l a).length ∧ (plainL l a).length ≤ 20 := fun ha hb => by
    rw [plain_len, plain_len]
    have := div_len ha
    have := (div_in ha).2.1
    have := (div_in hb).2.1
    omega
  clear hl h1 h2
  cases ha : divB l a
  · have e0 : eqvDB l a b = false := by unfold eqvDB; rw [ha]; rfl
    rw [e0]
    rw [ha] at HA
    clear ha HS HT HB HP HL e0
    go_enter Tryz.func25, Tryz.ntmps25
    go_wp2_with fail
    refine Calls.mono HA.out ?_
    rintro e w1 ⟨rfl, hb1⟩
    go_wp2
    go_returns
    exact ⟨rfl, by go_grown⟩
  · cases hb : divB l b
    · have e0 : eqvDB l a b = false := by unfold eqvDB; rw [hb, Bool.false_and, Bool.and_false]
      rw [e0]
      rw [ha] at HA
      rw [hb] at HB
      clear ha hb HS HT HP HL e0
      go_enter Tryz.func25, Tryz.ntmps25
      go_wp2_with fail
      refine Calls.mono HA.out ?_
      rintro e w1 ⟨rfl, hb1⟩
      go_wp2_with fail
      refine Calls.mono (HB.out _ hb1) ?_
      rintro e w2 ⟨rfl, hb2⟩
      have hB := belowTo hb1 hb2
      clear hb1 hb2
      go_wp2
      go_returns
      exact ⟨rfl, by go_grown⟩
    · rw [HP ha hb]
      obtain ⟨e1, e2, e3⟩ := HL ha hb
      rw [ha] at HA
      rw [hb] at HB
      have HS2 := Lib.hid (fun w' h => HS.out w' h ha)
      have HT2 := Lib.hid (fun w' h => HT.out w' h hb)
      clear ha hb HS HT HP HL
      generalize plainL l a = P at *
      generalize plainL l b = R at *
      have E1 := Lib.hid e1
      clear e1
      have KF := Lib.hid (fun k (hk : k < P.length) (h : gz P k ≠ gz R k) => same_false (X := gz P) (Y := gz R) hk h)
      have KT := Lib.hid (fun (h : ∀ j, j < P.length → gz P j = gz R j) => same_true (X := gz P) (Y := gz R) h)
      generalize sameB P.length (gz P) (gz R) = K at *
      go_enter Tryz.func25, Tryz.ntmps25
      go_wp2_with fail
      refine Calls.mono HA.out ?_
      rintro e w1 ⟨rfl, hb1⟩
      go_wp2_with fail
      refine Calls.mono (HB.out _ hb1) ?_
      rintro e w2 ⟨rfl, hb2⟩
      have hB := belowTo hb1 hb2
      clear hb1 hb2
      go_wp2_with fail
      refine Calls.mono (HS2.out _ hB) ?_
      rintro e w3 ⟨v3, rfl, hI, hb3⟩
      have hB3 := belowTo hB hb3
      clear hb3 hB
      go_wp2_with fail
      refine Calls.mono (HT2.out _ hB3) ?_
      rintro e w4 ⟨v4, rfl, hJ, hb4⟩
      have hB4 := belowTo hB3 hb4
      have rI := (hI.below hb4).reads (by omega)
      have rJ := hJ.reads (by rw [E1.out]; omega)
      obtain ⟨p1, o1, k1, rfl, _, hp1, hcs1⟩ := rI.open e2
      obtain ⟨p2, o2, k2, rfl, _, hp2, hcs2⟩ := rJ.open (by rw [E1.out]; exact e2)
      rw [E1.out] at hcs2
      rw [E1.out]
      have HX := Lib.hid hcs1
      have HY := Lib.hid hcs2
      have HAB := Lib.hid hB4
      have hB0 := Below.refl w4.heap.size w4
      clear hI hJ rI rJ hb4 hB3 hB4 hcs1 hcs2 E1 e2 HA HB HS2 HT2
      generalize gz P = X at *
      generalize gz R = Y at *
      generalize P.length = n at *
      go_wp2
      go_loopw [9] (fun s wr => ∃ k : Nat, k ≤ n ∧ s = .int .i64 k ∧ Hid (∀ j, j < k → X j = Y j) ∧ Below w4.heap.size w4 wr) (fun s _ => n - (intOf s).toNat)
      case atStart => exact ⟨0, Nat.zero_le _, rfl, fun j hj => by omega, Below.refl _ _⟩
      case round =>
        obtain ⟨k, hk, rfl, hE, hB⟩ := hrel
        have i1 : (0 : Int) ≤ (k : Int) := by omega
        by_cases hlt : k < n
        · have i2 : (k : Int) < (n : Int) := by omega
          have c1 := HX.out wr hB k hlt
          have c2 := HY.out wr hB k hlt
          have HN := Lib.hid (fun h => KF.out k hlt h)
          have HK : Hid (X k = Y k → ∀ j, j < k + 1 → X j = Y j) := fun h j hj => by
            by_cases e : j = k
            · subst e; exact h
            · exact hE.out j (by omega)
          have hBd : Below w4.heap.size w4 wr.drew := hB.trans (by go_grown)
          generalize X k = p at *
          generalize Y k = q at *
          by_cases hpq : p = q
          · subst hpq
            have HK2 := Lib.hid (HK.out rfl)
            clear HX HY HN HK hE KF KT
            go_wp2
            refine wp_region_any (by kernel_rfl) ?_
            try (change wpAny _ _ _ _ _ _ _ (World.drew _))
            refine wpAny_take (i := 0) (v := ?_) rfl (by kernel_rfl) (by kernel_rfl) (by kernel_rfl) (fun _ _ _ h => h) (Or.inl ⟨by rfl, ?_⟩) ?_
            rotate_left
            focus (intro w0; go_simp; try with_reducible rfl)
            refine wpAny_take (i := 1) (v := ?_) rfl (by kernel_rfl) (by kernel_rfl) (by kernel_rfl) (fun _ _ _ h => h) (Or.inl ⟨by rfl, ?_⟩) ?_
            rotate_left
            focus (intro w0; go_simp; try with_reducible rfl)
            refine wpAny_take (i := 2) (v := ?_) rfl (by kernel_rfl) (by kernel_rfl) (by kernel_rfl) (fun _ _ _ h => h) (Or.inl ⟨by rfl, ?_⟩) ?_
            rotate_left
            focus (intro w0; go_simp; try with_reducible rfl)
            refine wpAny_take (i := 4) (v := ?_) rfl (by kernel_rfl) (by kernel_rfl) (by kernel_rfl) (fun _ _ _ h => h) (Or.inl ⟨by rfl, ?_⟩) ?_
            rotate_left
            focus (intro w0; go_simp; try with_reducible rfl)
            refine wpAny_take (i := 5) (v := ?_) rfl (by kernel_rfl) (by kernel_rfl) (by kernel_rfl) (fun _ _ _ h => h) (Or.inl ⟨by rfl, ?_⟩) ?_
            rotate_left
            focus (intro w0; go_simp; try with_reducible rfl)
            refine wpAny_take (i := 6) (v := ?_) rfl (by kernel_rfl) (by kernel_rfl) (by kernel_rfl) (fun _ _ _ h => h) (Or.inl ⟨by rfl, ?_⟩) ?_
            rotate_left
            focus (intro w0; go_simp; try with_reducible rfl)
            refine wpAny_ready (rs := [3, 7]) (by kernel_rfl) (by simp) (AllReady.cons rfl (fun K hK => ?_) (AllReady.cons rfl (fun K hK => ?_) (AllReady.nil)))
            focus
              go_simp
              refine hK _ _ ?_
              clear hK K
              refine wpAny_ready (rs := [7]) (by kernel_rfl) (by simp) (AllReady.cons rfl (fun K hK => ?_) (AllReady.nil))
              go_simp
              refine hK _ _ ?_
              clear hK K
              refine wpAny_seq 8 rfl (by kernel_rfl) ?_
              simp only [List.drop_succ_cons, List.drop_zero]
            rotate_left 1
            focus
              go_simp
              refine hK _ _ ?_
              clear hK K
              refine wpAny_ready (rs := [3]) (by kernel_rfl) (by simp) (AllReady.cons rfl (fun K hK => ?_) (AllReady.nil))
              go_simp
              refine hK _ _ ?_
              clear hK K
              refine wpAny_seq 8 rfl (by kernel_rfl) ?_
              simp only [List.drop_succ_cons, List.drop_zero]
            all_goals
              go_wp2
              go_roundw
              case rel => exact ⟨k + 1, by omega, by go_num, HK2, hBd⟩
              case measure => simp [intOf]; omega
          · have hq1 : (p == q) = false := by simpa using hpq
            have hq2 : (p != q) = true := by simp [bne, hq1]
            have HF := Lib.hid (HN.out hpq)
            have hA := belowTo HAB.out hBd
            clear HX HY HN HK hE KF KT
            go_wp2
            refine wp_region_any (by kernel_rfl) ?_
            try (change wpAny _ _ _ _ _ _ _ (World.drew _))
            refine wpAny_take (i := 0) (v := ?_) rfl (by kernel_rfl) (by kernel_rfl) (by kernel_rfl) (fun _ _ _ h => h) (Or.inl ⟨by rfl, ?_⟩) ?_
            rotate_left
            focus (intro w0; go_simp; try with_reducible rfl)
            refine wpAny_take (i := 1) (v := ?_) rfl (by kernel_rfl) (by kernel_rfl) (by kernel_rfl) (fun _ _ _ h => h) (Or.inl ⟨by rfl, ?_⟩) ?_
            rotate_left
            focus (intro w0; go_simp; try with_reducible rfl)
            refine wpAny_take (i := 2) (v := ?_) rfl (by kernel_rfl) (by kernel_rfl) (by kernel_rfl) (fun _ _ _ h => h) (Or.inl ⟨by rfl, ?_⟩) ?_
            rotate_left
            focus (intro w0; go_simp; try with_reducible rfl)
            refine wpAny_take (i := 4) (v := ?_) rfl (by kernel_rfl) (by kernel_rfl) (by kernel_rfl) (fun _ _ _ h => h) (Or.inl ⟨by rfl, ?_⟩) ?_
            rotate_left
            focus (intro w0; go_simp; try with_reducible rfl)
            refine wpAny_take (i := 5) (v := ?_) rfl (by kernel_rfl) (by kernel_rfl) (by kernel_rfl) (fun _ _ _ h => h) (Or.inl ⟨by rfl, ?_⟩) ?_
            rotate_left
            focus (intro w0; go_simp; try with_reducible rfl)
            refine wpAny_take (i := 6) (v := ?_) rfl (by kernel_rfl) (by kernel_rfl) (by kernel_rfl) (fun _ _ _ h => h) (Or.inl ⟨by rfl, ?_⟩) ?_
            rotate_left
            focus (intro w0; go_simp; try with_reducible rfl)
            refine wpAny_ready (rs := [3, 7]) (by kernel_rfl) (by simp) (AllReady.cons rfl (fun K hK => ?_) (AllReady.cons rfl (fun K hK => ?_) (AllReady.nil)))
            focus
              go_simp
              refine hK _ _ ?_
              clear hK K
              refine wpAny_ready (rs := [7]) (by kernel_rfl) (by simp) (AllReady.cons rfl (fun K hK => ?_) (AllReady.nil))
              go_simp
              refine hK _ _ ?_
              clear hK K
              refine wpAny_seq 8 rfl (by kernel_rfl) ?_
              simp only [List.drop_succ_cons, List.drop_zero]
            rotate_left 1
            focus
              go_simp
              refine hK _ _ ?_
              clear hK K
              refine wpAny_ready (rs := [3]) (by kernel_rfl) (by simp) (AllReady.cons rfl (fun K hK => ?_) (AllReady.nil))
              go_simp
              refine hK _ _ ?_
              clear hK K
              refine wpAny_seq 8 rfl (by kernel_rfl) ?_
              simp only [List.drop_succ_cons, List.drop_zero]
            all_goals
              go_wp2
              go_returns
              exact ⟨by rw [HF.out]; rfl, hA⟩
        · obtain rfl : k = n := by omega
          have i2 : ¬ (k : Int) < (k : Int) := by omega
          have HT := Lib.hid (KT.out hE.out)
          have hA := belowTo HAB.out hB
          go_wp2
          go_returns
          exact ⟨by rw [HT.out]; rfl, hA⟩
end Go.Proofs.YtohojjoediibhaaGreatDoor
