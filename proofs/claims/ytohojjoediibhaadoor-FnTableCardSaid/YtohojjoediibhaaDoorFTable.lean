/- FnTable: the walk (by hand; the law's sameRows, two loops). -/
import Derived.Test.YtohojjoediibhaaDoorUe
import Derived.Test.YtohojjoediibhaaDoorEv
import Derived.Test.YtohojjoediibhaaDoorEs
import Derived.Test.YtohojjoediibhaaDoorSm
namespace Go.Proofs.YtohojjoediibhaaDoor
open Go.RowKit

set_option maxHeartbeats 8000000 in
theorem sameRows_eq (v1 v2 : Value) (lo1 hi1 lo2 hi2 : Nat) (L : List (List Int)) (w : World) (h1 : Rows2 w lo1 hi1 v1 L) (h2 : Rows2 w lo2 hi2 v2 L) :
    Calls Tryd.prog 73 #[v1, v2] w fun e w' => e = .returned (.bool true) ∧ Below w.heap.size w w' := by
  obtain ⟨a1, c1, rfl⟩ := h1.len_eq
  obtain ⟨a2, c2, rfl⟩ := h2.len_eq
  have HA := Lib.hid (fun h0 => h1.at h0)
  have HB := Lib.hid (fun h0 => h2.at h0)
  have HE := Lib.hid (fun u1 u2 b1 b2 l w' I1 I2 => sameInts_same u1 u2 b1 b2 l w' I1 I2)
  obtain ⟨n, hn⟩ : ∃ n, n = L.length := ⟨_, rfl⟩
  have hm : n ≤ maxLen := by
    by_cases h0 : 0 < L.length
    · obtain ⟨_, _, _, _, h, _⟩ := h1.at h0; omega
    · omega
  unfold maxLen at hm
  rw [← hn] at HA HB ⊢
  clear h1 h2 hn
  go_enter Tryd.func73, Tryd.ntmps73
  go_wp2
  go_loopw [5] (fun s5 wr => ∃ r : Nat, s5 = .int .i64 r ∧ r ≤ n ∧ Below w.heap.size w wr) (fun s5 _ => n - (intOf s5).toNat)
  case atStart => exact ⟨0, rfl, Nat.zero_le _, Below.refl _ _⟩
  case round =>
    obtain ⟨r, rfl, hr, hB⟩ := hrel
    have i0 : (0 : Int) ≤ (r : Int) := by omega
    by_cases hlt : r < n
    · have i1 : (r : Int) < (n : Int) := by omega
      obtain ⟨g1, d1, e1, hg1, _, hc1⟩ := HA.out (by omega)
      obtain ⟨g2, d2, e2, hg2, _, hc2⟩ := HB.out (by omega)
      injection e1 with e1 _ e1c
      injection e2 with e2 _ e2c
      subst e1 e2 e1c e2c
      obtain ⟨p1, q1, r1, k1, I1, _⟩ := hc1 r hlt
      obtain ⟨p2, q2, r2, k2, I2, _⟩ := hc2 r hlt
      have l1 := cell_lt k1
      have l2 := cell_lt k2
      have m1 := (hB.cell (p := ⟨g1, r, none⟩) l1).trans k1
      have m2 := (hB.cell (p := ⟨g2, r, none⟩) l2).trans k2
      have HEr := Lib.hid (HE.out _ _ _ _ _ wr.drew ((I1.below hB).below (by go_grown)) ((I2.below hB).below (by go_grown)))
      clear hc1 hc2 I1 I2 k1 k2
      go_wp2
      refine wp_region_any (by kernel_rfl) ?_
      try (change wpAny _ _ _ _ _ _ _ (World.drew _))
      refine wpAny_take (i := 0) (v := ?_) rfl (by kernel_rfl) (by kernel_rfl) (by kernel_rfl) (fun _ _ _ h => h) (Or.inl ⟨by rfl, ?_⟩) ?_
      rotate_left
      focus (intro w0; go_simp; try with_reducible rfl)
      refine wpAny_take (i := 1) (v := ?_) rfl (by kernel_rfl) (by kernel_rfl) (by kernel_rfl) (fun _ _ _ h => h) (Or.inl ⟨by rfl, ?_⟩) ?_
      rotate_left
      focus (intro w0; go_simp; try with_reducible rfl)
      refine wpAny_take (i := 2) (v := ?_) rfl (by kernel_rfl) (by kernel_rfl) (by kernel_rfl) (fun _ _ _ h => h) (Or.inl ⟨by rfl, ?_⟩) ?_
      rotate_left
      focus (intro w0; go_simp; try with_reducible rfl)
      refine wpAny_take (i := 4) (v := ?_) rfl (by kernel_rfl) (by kernel_rfl) (by kernel_rfl) (fun _ _ _ h => h) (Or.inl ⟨by rfl, ?_⟩) ?_
      rotate_left
      focus (intro w0; go_simp; try with_reducible rfl)
      refine wpAny_take (i := 5) (v := ?_) rfl (by kernel_rfl) (by kernel_rfl) (by kernel_rfl) (fun _ _ _ h => h) (Or.inl ⟨by rfl, ?_⟩) ?_
      rotate_left
      focus (intro w0; go_simp; try with_reducible rfl)
      refine wpAny_take (i := 6) (v := ?_) rfl (by kernel_rfl) (by kernel_rfl) (by kernel_rfl) (fun _ _ _ h => h) (Or.inl ⟨by rfl, ?_⟩) ?_
      rotate_left
      focus (intro w0; go_simp; try with_reducible rfl)
      refine wpAny_ready (rs := [3, 7]) (by kernel_rfl) (by simp) (AllReady.cons rfl (fun K hK => ?_) (AllReady.cons rfl (fun K hK => ?_) (AllReady.nil)))
      focus
        go_simp
        refine hK _ _ ?_
        clear hK K
        refine wpAny_ready (rs := [7]) (by kernel_rfl) (by simp) (AllReady.cons rfl (fun K hK => ?_) (AllReady.nil))
        go_simp
        refine hK _ _ ?_
        clear hK K
        refine wpAny_ready (rs := [8]) (by kernel_rfl) (by simp) (AllReady.cons rfl (fun K hK => ?_) (AllReady.nil))
        go_simp
        (refine Calls.mono HEr.out ?_; rintro e w2 ⟨rfl, hbX⟩; replace hbX := undrew hbX; replace hB := belowTo hB hbX; clear hbX)
        refine hK _ _ ?_
        clear hK K
        refine wpAny_seq 9 rfl (by kernel_rfl) ?_
        simp only [List.drop_succ_cons, List.drop_zero]
      rotate_left 1
      focus
        go_simp
        refine hK _ _ ?_
        clear hK K
        refine wpAny_ready (rs := [3]) (by kernel_rfl) (by simp) (AllReady.cons rfl (fun K hK => ?_) (AllReady.nil))
        go_simp
        refine hK _ _ ?_
        clear hK K
        refine wpAny_ready (rs := [8]) (by kernel_rfl) (by simp) (AllReady.cons rfl (fun K hK => ?_) (AllReady.nil))
        go_simp
        (refine Calls.mono HEr.out ?_; rintro e w2 ⟨rfl, hbX⟩; replace hbX := undrew hbX; replace hB := belowTo hB hbX; clear hbX)
        refine hK _ _ ?_
        clear hK K
        refine wpAny_seq 9 rfl (by kernel_rfl) ?_
        simp only [List.drop_succ_cons, List.drop_zero]
      all_goals
        go_wp2
        go_roundw
        case rel => exact ⟨r + 1, by go_num, by omega, hB⟩
        case measure => simp [intOf]; omega
    · obtain rfl : r = n := by omega
      have i2 : ¬ (r : Int) < (r : Int) := by omega
      go_wp2
      go_returns
      exact ⟨rfl, hB⟩
/-- the table's cells, in whatever later world -/
theorem grid_tab {W : World} {lo hi : Nat} {v : Value} {l : List V2} (h : Rows2 W lo hi v (tabLL l)) (h3 : 3 ≤ l.length) :
    ∃ g off c, v = .slice (some ⟨g, off, none⟩) (l.length - 2) c ∧ ∀ wr, Below W.heap.size W wr → ∀ j, j < l.length - 2 → ∃ gj oj cj, wr.cell? ⟨g, off + j, none⟩ = some (.slice (some ⟨gj, oj, none⟩) (l.length - 2) cj) ∧ ∀ k, k < l.length - 2 → wr.cell? ⟨gj, oj + k, none⟩ = some (.int .i64 (tabZ l j k)) := by
  obtain ⟨g, off, c, rfl, hgs, hmx, hcell⟩ := h.grid (m := l.length - 2) (by rw [tabLL_len]; omega) (by omega) (fun j hj => by rw [tabLL_len] at hj; rw [tabLL_at hj, tabRow_len])
  rw [tabLL_len] at hcell ⊢
  refine ⟨g, off, c, rfl, ?_⟩
  intro wr hb j hj
  obtain ⟨gj, oj, cj, h1, _, h2, h3⟩ := hcell j hj
  refine ⟨gj, oj, cj, (hb.cell (p := ⟨g, off + j, none⟩) hgs).trans h2, fun k hk => (hb.cell (p := ⟨gj, oj + k, none⟩) h1).trans ?_⟩
  rw [h3 k hk, tabLL_at hj, tabRow_at hk]

set_option maxRecDepth 100000 in
set_option maxHeartbeats 16000000 in
theorem fnTable_any (a : Option Addr) (len cap : Nat) (w : World) (h : Bytes w a len cap) (hg : EtOk w) :
    Calls Tryd.prog 17 #[.slice a len cap] w fun e w' => e = .returned (.bool true) ∧ Below w.heap.size w w' := by
  by_cases hlen : len ≤ 1048576
  case neg =>
    have j1 : (1048576 : Int) < (len : Int) := by omega
    clear h hg
    go_enter Tryd.func17, Tryd.ntmps17
    go_wp2
    go_returns
    exact ⟨rfl, by go_grown⟩
  case pos =>
  have j1 : (len : Int) ≤ 1048576 := by omega
  have HO := Lib.hid (drawSurfaceTable_any w a len cap h)
  clear h
  go_enter Tryd.func17, Tryd.ntmps17
  go_wp2_with fail
  refine Calls.mono HO.out ?_
  rintro e w1 ⟨v, l, rfl, hV, h2, h20, hb1⟩
  have HG := Lib.hid (hg.below hb1)
  have HF := Lib.hid hV
  have HB : Hid (Below w.heap.size w w1) := hb1
  have HS0 := Lib.hid (fun w' hv hg => surfaceTable_any v l w' hv hg)
  have HT0 := Lib.hid (fun w' hv => specSurfaceTable_any v l w' hv)
  obtain ⟨va, vc, rfl, _, _, _⟩ := hV
  clear HO hg hb1
  cases hs : smoothB l
  · have HS : Hid (∀ w', ReadsVecs w' (.slice va l.length vc) l → EtOk w' → Calls Tryd.prog 71 #[.slice va l.length vc] w' (GivesRowsOk w' false [])) := fun w' hv hg => by
      have h := HS0.out w' hv hg
      rw [hs] at h
      exact h
    have HT : Hid (∀ w', ReadsVecs w' (.slice va l.length vc) l → Calls Tryd.prog 72 #[.slice va l.length vc] w' (GivesRowsOk w' false [])) := fun w' hv => by
      have h := HT0.out w' hv
      rw [hs] at h
      exact h
    clear hs HS0 HT0
    go_wp2_with fail
    refine Calls.mono (HS.out _ (HF.out.below (by go_grown)) (HG.out.below (by go_grown))) ?_
    rintro e w2 ⟨u1, i1, rfl, hR1, hb2⟩
    have hB2 := belowTo (a := w1) (by go_grown) hb2
    replace HF := Lib.hid (HF.out.below hB2)
    replace HB := Lib.hid (belowTo HB.out hB2)
    have HR1 : Hid (Rows2 w2 _ i1 u1 []) := hR1
    clear hb2 hB2 hR1 HS HG
    go_wp2_with fail
    refine Calls.mono (HT.out _ (HF.out.below (by go_grown))) ?_
    rintro e w3 ⟨u2, i2, rfl, hR2, hb3⟩
    have hB3 := belowTo (a := w2) (by go_grown) hb3
    replace HB := Lib.hid (belowTo HB.out hB3)
    replace HR1 := Lib.hid (HR1.out.below hB3)
    have HR2 : Hid (Rows2 w3 _ i2 u2 []) := hR2
    clear hb3 hB3 hR2 HT HF
    go_wp2_with fail
    refine Calls.mono (sameRows_eq _ _ _ _ _ _ _ _ (HR1.out.below (by go_grown)) (HR2.out.below (by go_grown))) ?_
    rintro e w4 ⟨rfl, hb4⟩
    have hB4 := belowTo (a := w3) (by go_grown) hb4
    replace HB := Lib.hid (belowTo HB.out hB4)
    replace HR1 := Lib.hid (HR1.out.below hB4)
    replace HR2 := Lib.hid (HR2.out.below hB4)
    clear hb4 hB4
    go_wp2_with fail
    refine Calls.mono (sameRows_eq _ _ _ _ _ _ _ _ (HR1.out.below (by go_grown)) (HR2.out.below (by go_grown))) ?_
    rintro e w5 ⟨rfl, hb5⟩
    have hB5 := belowTo (a := w4) (by go_grown) hb5
    replace HB := Lib.hid (belowTo HB.out hB5)
    clear hb5 hB5 HR1 HR2
    go_wp2
    go_returns
    exact ⟨rfl, HB.out⟩
  · have HS : Hid (∀ w', ReadsVecs w' (.slice va l.length vc) l → EtOk w' → Calls Tryd.prog 71 #[.slice va l.length vc] w' (GivesRowsOk w' true (tabLL l))) := fun w' hv hg => by
      have h := HS0.out w' hv hg
      rw [hs] at h
      exact h
    have HT : Hid (∀ w', ReadsVecs w' (.slice va l.length vc) l → Calls Tryd.prog 72 #[.slice va l.length vc] w' (GivesRowsOk w' true (tabLL l))) := fun w' hv => by
      have h := HT0.out w' hv
      rw [hs] at h
      exact h
    have h3 := (smooth_len hs).1
    have HGr := Lib.hid (fun W lo hi v (h : Rows2 W lo hi v (tabLL l)) => grid_tab h h3)
    have HSy := Lib.hid (fun i k => tab_sym l i k)
    clear hs HS0 HT0
    go_wp2_with fail
    refine Calls.mono (HS.out _ (HF.out.below (by go_grown)) (HG.out.below (by go_grown))) ?_
    rintro e w2 ⟨u1, i1, rfl, hR1, hb2⟩
    have hB2 := belowTo (a := w1) (by go_grown) hb2
    replace HF := Lib.hid (HF.out.below hB2)
    replace HB := Lib.hid (belowTo HB.out hB2)
    have HR1 : Hid (Rows2 w2 _ i1 u1 (tabLL l)) := hR1
    clear hb2 hB2 hR1 HS HG
    go_wp2_with fail
    refine Calls.mono (HT.out _ (HF.out.below (by go_grown))) ?_
    rintro e w3 ⟨u2, i2, rfl, hR2, hb3⟩
    have hB3 := belowTo (a := w2) (by go_grown) hb3
    replace HB := Lib.hid (belowTo HB.out hB3)
    replace HR1 := Lib.hid (HR1.out.below hB3)
    have HR2 : Hid (Rows2 w3 _ i2 u2 (tabLL l)) := hR2
    clear hb3 hB3 hR2 HT HF
    go_wp2_with fail
    refine Calls.mono (sameRows_eq _ _ _ _ _ _ _ _ (HR1.out.below (by go_grown)) (HR2.out.below (by go_grown))) ?_
    rintro e w4 ⟨rfl, hb4⟩
    have hB4 := belowTo (a := w3) (by go_grown) hb4
    replace HB := Lib.hid (belowTo HB.out hB4)
    replace HR1 := Lib.hid (HR1.out.below hB4)
    clear hb4 hB4 HR2
    obtain ⟨g, off, c, rfl, hc⟩ := HGr.out _ _ _ _ HR1.out
    have HC := Lib.hid hc
    obtain ⟨m, hm⟩ : ∃ m, m = l.length - 2 := ⟨_, rfl⟩
    obtain ⟨n, hn⟩ : ∃ n, n = l.length := ⟨_, rfl⟩
    rw [← hm] at HC ⊢
    rw [← hn] at h2 h20 h3 hm ⊢
    have qe : IntKind.i64.wrap ((n : Int) - 2) = (m : Int) := by rw [IntKind.wrap_i64]; omega
    clear hc HR1 HGr hn
    go_wp2
    go_loopw [8] (fun s8 wr => ∃ i : Nat, i ≤ m ∧ s8 = .int .i64 (i : Int) ∧ Below w4.heap.size w4 wr) (fun s8 _ => m - (intOf s8).toNat)
    case atStart => exact ⟨0, Nat.zero_le _, rfl, by go_grown⟩
    case round =>
      obtain ⟨i, him, rfl, hB⟩ := hrel
      have i0 : (0 : Int) ≤ (i : Int) := by omega
      by_cases hlt : i < m
      · have i1 : (i : Int) < (m : Int) := by omega
        obtain ⟨wo, hwo⟩ : ∃ wo : World, wo = wr := ⟨_, rfl⟩
        subst hwo
        obtain ⟨gi, oi, ci, r1, _⟩ := HC.out wo hB i hlt
        go_wp2
        go_loopw [9] (fun s9 wr => ∃ k : Nat, k ≤ i ∧ s9 = .int .i64 (k : Int) ∧ Below w4.heap.size w4 wr) (fun s9 _ => i - (intOf s9).toNat)
        case atStart => exact ⟨0, Nat.zero_le _, rfl, hB⟩
        case round =>
          obtain ⟨k, hki, rfl, hBk⟩ := hrel
          clear r1
          have k0 : (0 : Int) ≤ (k : Int) := by omega
          by_cases hkl : k < i
          · have k1 : (k : Int) < (i : Int) := by omega
            have k2 : (k : Int) < (m : Int) := by omega
            obtain ⟨gi, oi, ci, r1, hri⟩ := HC.out wr hBk i hlt
            obtain ⟨gk, ok, ck, r2, hrk⟩ := HC.out wr hBk k (by omega)
            have c1 := hri k (by omega)
            have c2 := hrk i hlt
            rw [HSy.out k i] at c2
            have q2 : IntKind.i64.wrap ((k : Int) + 1) = (k : Int) + 1 := by rw [IntKind.wrap_i64]; omega
            clear hri hrk
            generalize tabZ l i k = z at *
            go_wp2_with fail
            go_quiet (fail)
            go_wp2
            go_roundw
            case rel => exact ⟨k + 1, by omega, by go_num, below_drewN hBk _⟩
            case measure => simp [intOf]; omega
          · obtain rfl : k = i := by omega
            have i2 : ¬ (k : Int) < (k : Int) := by omega
            have q2 : IntKind.i64.wrap ((k : Int) + 1) = (k : Int) + 1 := by rw [IntKind.wrap_i64]; omega
            go_wp2
            go_roundw
            case rel => exact ⟨k + 1, by omega, by go_num, hBk⟩
            case measure => simp [intOf]; omega
      · obtain rfl : i = m := by omega
        have i2 : ¬ (i : Int) < (i : Int) := by omega
        go_wp2
        go_returns
        exact ⟨by simp, belowTo HB.out hB⟩
end Go.Proofs.YtohojjoediibhaaDoor
