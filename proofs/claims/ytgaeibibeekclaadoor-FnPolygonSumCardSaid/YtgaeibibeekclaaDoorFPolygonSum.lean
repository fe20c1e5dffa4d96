/- FnPolygonSum: the walk. -/
import Derived.Test.YtgaeibibeekclaaDoorK9
import Derived.Test.YtgaeibibeekclaaDoorK6
import Derived.Test.YtgaeibibeekclaaDoorK0
import Derived.Test.YtgaeibibeekclaaDoorK8
import Derived.Test.YtgaeibibeekclaaDoorK1
namespace Go.Proofs.YtgaeibibeekclaaDoor
open Go.RowKit

set_option maxRecDepth 100000 in
set_option maxHeartbeats 16000000 in
theorem fnPolygonSum_any (a : Option Addr) (len cap : Nat) (w : World) (h : Bytes w a len cap) (hg : EtOk w) :
    Calls Tryd.prog 3 #[.slice a len cap] w fun e w' => e = .returned (.bool true) ∧ Below w.heap.size w w' := by
  by_cases hlen : len ≤ 1048576
  case neg =>
    have j1 : (1048576 : Int) < (len : Int) := by omega
    clear h hg
    go_enter Tryd.func3, Tryd.ntmps3
    go_wp2
    go_returns
    exact ⟨rfl, by go_grown⟩
  case pos =>
  have j1 : (len : Int) ≤ 1048576 := by omega
  have HO := Lib.hid (drawPolygonSum_any w a len cap h)
  clear h
  go_enter Tryd.func3, Tryd.ntmps3
  go_wp2_with fail
  refine Calls.mono HO.out ?_
  rintro e w1 ⟨v, u, l, r, rfl, hV, hU, h2, h20, r2, r20, hb1⟩
  have HG := Lib.hid (hg.below hb1)
  have Hf := Lib.hid hV
  have Hg := Lib.hid hU
  have HB : Hid (Below w.heap.size w w1) := hb1
  clear hb1 HO hg hV hU
  cases hk : SumB l r
  · have C1 : Hid (∀ (w' : World) (v0 : Value) (v1 : Value), ReadsVecs w' v0 (l) → ReadsVecs w' v1 (r) → EtOk w' → Calls Tryd.prog 10 #[v0, v1] w' (GivesVecsR w' ([]) (false))) := fun w' v0 v1 h0 h1 hg' => by
      have h := polygonSum_any v0 v1 l r w' h0 h1 hg'
      unfold SumL at h; rw [hk] at h
      exact h
    have C2 : Hid (∀ (w' : World) (v0 : Value) (v1 : Value), ReadsVecs w' v0 (l) → ReadsVecs w' v1 (r) → EtOk w' → Calls Tryd.prog 11 #[v0, v1] w' (GivesVecsOk w' ([]) (false))) := fun w' v0 v1 h0 h1 hg' => by
      have h := specPolygonSum_any v0 v1 l r w' h0 h1
      unfold SumL at h; rw [hk] at h
      exact h
    clear hk
    go_wp2_with fail
    refine Calls.mono (C1.out _ _ _ (Hf.out.below (by go_grown)) (Hg.out.below (by go_grown)) (HG.out.below (by go_grown))) ?_
    rintro e w2 ⟨v2, rfl, hI2, hb2⟩
    have hB2 := belowTo (a := w1) (by go_grown) hb2
    replace Hf := Lib.hid (Hf.out.below hB2)
    replace Hg := Lib.hid (Hg.out.below hB2)
    replace HG := Lib.hid (HG.out.below hB2)
    replace HB := Lib.hid (belowTo HB.out hB2)
    clear hb2 hB2
    have Ho1 := Lib.hid (VecsR.reads hI2 (by simp))
    clear hI2
    go_wp2_with fail
    refine Calls.mono (C2.out _ _ _ (Hf.out.below (by go_grown)) (Hg.out.below (by go_grown)) (HG.out.below (by go_grown))) ?_
    rintro e w3 ⟨v3, rfl, hI3, hb3⟩
    have hB3 := belowTo (a := w2) (by go_grown) hb3
    replace Hf := Lib.hid (Hf.out.below hB3)
    replace Hg := Lib.hid (Hg.out.below hB3)
    replace Ho1 := Lib.hid (Ho1.out.below hB3)
    replace HG := Lib.hid (HG.out.below hB3)
    replace HB := Lib.hid (belowTo HB.out hB3)
    clear hb3 hB3
    have Ho2 := Lib.hid (Vecs.reads hI3 (by simp))
    clear hI3
    go_wp2_with fail
    refine Calls.mono (sameVecs_eq _ _ _ _ (Ho1.out.below (by go_grown)) (Ho2.out.below (by go_grown))) ?_
    rintro e w4 ⟨rfl, hb4⟩
    have hB4 := belowTo (a := w3) (by go_grown) hb4
    replace Hf := Lib.hid (Hf.out.below hB4)
    replace Hg := Lib.hid (Hg.out.below hB4)
    replace Ho1 := Lib.hid (Ho1.out.below hB4)
    replace Ho2 := Lib.hid (Ho2.out.below hB4)
    replace HG := Lib.hid (HG.out.below hB4)
    replace HB := Lib.hid (belowTo HB.out hB4)
    clear hb4 hB4
    go_wp2_with fail
    refine Calls.mono (sameVecs_eq _ _ _ _ (Ho1.out.below (by go_grown)) (Ho2.out.below (by go_grown))) ?_
    rintro e w5 ⟨rfl, hb5⟩
    have hB5 := belowTo (a := w4) (by go_grown) hb5
    replace Hf := Lib.hid (Hf.out.below hB5)
    replace Hg := Lib.hid (Hg.out.below hB5)
    replace Ho1 := Lib.hid (Ho1.out.below hB5)
    replace Ho2 := Lib.hid (Ho2.out.below hB5)
    replace HG := Lib.hid (HG.out.below hB5)
    replace HB := Lib.hid (belowTo HB.out hB5)
    clear hb5 hB5
    go_wp2
    go_returns
    exact ⟨rfl, HB.out⟩
  · have C1 : Hid (∀ (w' : World) (v0 : Value) (v1 : Value), ReadsVecs w' v0 (l) → ReadsVecs w' v1 (r) → EtOk w' → Calls Tryd.prog 10 #[v0, v1] w' (GivesVecsR w' (hullD (smL l r)) (true))) := fun w' v0 v1 h0 h1 hg' => by
      have h := polygonSum_any v0 v1 l r w' h0 h1 hg'
      unfold SumL at h; rw [hk] at h
      exact h
    have C2 : Hid (∀ (w' : World) (v0 : Value) (v1 : Value), ReadsVecs w' v0 (l) → ReadsVecs w' v1 (r) → EtOk w' → Calls Tryd.prog 11 #[v0, v1] w' (GivesVecsOk w' (hullD (smL l r)) (true))) := fun w' v0 v1 h0 h1 hg' => by
      have h := specPolygonSum_any v0 v1 l r w' h0 h1
      unfold SumL at h; rw [hk] at h
      exact h
    obtain ⟨q1, q2⟩ := pd_sum_has hk
    have q3 := pd_sumB l r
    have q4 := pd_sumL l r
    rw [hk] at q3
    have q5 : SumL l r = hullD (smL l r) := by unfold SumL; rw [hk]; rfl
    rw [q5] at q4
    have q6 : polyB (hullD (smL l r)) = true := by unfold SumB at hk; rw [Bool.and_eq_true] at hk; exact hk.2
    unfold adV at q1
    have C3 : Hid (∀ (w' : World) (v0 : Value) (v1 : Value), ReadsVecs w' v0 (r) → ReadsVecs w' v1 (l) → EtOk w' → Calls Tryd.prog 10 #[v0, v1] w' (GivesVecsR w' (hullD (smL l r)) (true))) := fun w' v0 v1 h0 h1 hg' => by
      have h := polygonSum_any v0 v1 r l w' h0 h1 hg'
      rw [q3, q4] at h
      exact h
    have C4 : Hid (∀ (w' : World) (v0 : Value), ReadsVecs w' v0 (hullD (smL l r)) → EtOk w' → Calls Tryd.prog 13 #[v0, .agg #[.int .i64 ((cyc l 0).1 + (cyc r 0).1), .int .i64 ((cyc l 0).2 + (cyc r 0).2)]] w' (fun e w'' => e = .returned (.bool (true)) ∧ Below w'.heap.size w' w'')) := fun w' v0 h0 hg' => by
      have h := polygonHas_any v0 (hullD (smL l r)) ((cyc l 0).1 + (cyc r 0).1) ((cyc l 0).2 + (cyc r 0).2) w' h0 hg'
      rw [q6, q2, q1] at h
      exact h
    have HL : Hid ((hullD (smL l r)).length ≤ 1000) := by show _ ≤ _; have := poly_len q6; omega
    have hk9 := hk
    unfold SumB at hk9
    rw [Bool.and_eq_true, Bool.and_eq_true] at hk9
    have b1 := poly_small hk9.1.1 0
    have b2 := poly_small hk9.1.2 0
    have wy1 : IntKind.i64.wrap ((cyc l 0).1 + (cyc r 0).1) = (cyc l 0).1 + (cyc r 0).1 := by rw [IntKind.wrap_i64]; omega
    have wy2 : IntKind.i64.wrap ((cyc l 0).2 + (cyc r 0).2) = (cyc l 0).2 + (cyc r 0).2 := by rw [IntKind.wrap_i64]; omega
    clear hk9 b1 b2
    generalize hullD (smL l r) = m at *
    clear q1 q2 q3 q4 q5 q6 hk
    go_wp2_with fail
    refine Calls.mono (C1.out _ _ _ (Hf.out.below (by go_grown)) (Hg.out.below (by go_grown)) (HG.out.below (by go_grown))) ?_
    rintro e w2 ⟨v2, rfl, hI2, hb2⟩
    have hB2 := belowTo (a := w1) (by go_grown) hb2
    replace Hf := Lib.hid (Hf.out.below hB2)
    replace Hg := Lib.hid (Hg.out.below hB2)
    replace HG := Lib.hid (HG.out.below hB2)
    replace HB := Lib.hid (belowTo HB.out hB2)
    clear hb2 hB2
    have Ho := Lib.hid (VecsR.reads hI2 (by have := HL.out; omega))
    clear hI2
    go_wp2_with fail
    refine Calls.mono (C2.out _ _ _ (Hf.out.below (by go_grown)) (Hg.out.below (by go_grown)) (HG.out.below (by go_grown))) ?_
    rintro e w3 ⟨v3, rfl, hI3, hb3⟩
    have hB3 := belowTo (a := w2) (by go_grown) hb3
    replace Hf := Lib.hid (Hf.out.below hB3)
    replace Hg := Lib.hid (Hg.out.below hB3)
    replace Ho := Lib.hid (Ho.out.below hB3)
    replace HG := Lib.hid (HG.out.below hB3)
    replace HB := Lib.hid (belowTo HB.out hB3)
    clear hb3 hB3
    have Ho2 := Lib.hid (Vecs.reads hI3 (by have := HL.out; omega))
    clear hI3
    go_wp2_with fail
    refine Calls.mono (sameVecs_eq _ _ _ _ (Ho.out.below (by go_grown)) (Ho2.out.below (by go_grown))) ?_
    rintro e w4 ⟨rfl, hb4⟩
    have hB4 := belowTo (a := w3) (by go_grown) hb4
    replace Hf := Lib.hid (Hf.out.below hB4)
    replace Hg := Lib.hid (Hg.out.below hB4)
    replace Ho := Lib.hid (Ho.out.below hB4)
    replace Ho2 := Lib.hid (Ho2.out.below hB4)
    replace HG := Lib.hid (HG.out.below hB4)
    replace HB := Lib.hid (belowTo HB.out hB4)
    clear hb4 hB4
    clear Ho2
    go_wp2_with fail
    refine Calls.mono (C3.out _ _ _ (Hg.out.below (by go_grown)) (Hf.out.below (by go_grown)) (HG.out.below (by go_grown))) ?_
    rintro e w5 ⟨v5, rfl, hI5, hb5⟩
    have hB5 := belowTo (a := w4) (by go_grown) hb5
    replace Hf := Lib.hid (Hf.out.below hB5)
    replace Hg := Lib.hid (Hg.out.below hB5)
    replace Ho := Lib.hid (Ho.out.below hB5)
    replace HG := Lib.hid (HG.out.below hB5)
    replace HB := Lib.hid (belowTo HB.out hB5)
    clear hb5 hB5
    have Hx := Lib.hid (VecsR.reads hI5 (by have := HL.out; omega))
    clear hI5
    obtain ⟨fb, fo, fc, rfl, -, -, hfb, hfs⟩ := Hf.out.open (by omega)
    obtain ⟨gb, go, gc, rfl, -, -, hgb, hgs⟩ := Hg.out.open (by omega)
    obtain ⟨c0, c1⟩ := hfs w5 (Below.refl _ _) 0 (by omega)
    obtain ⟨d0, d1⟩ := hgs w5 (Below.refl _ _) 0 (by omega)
    rw [Nat.zero_mul, Nat.add_zero] at c0 c1 d0 d1
    clear hfs hgs
    generalize cyc l 0 = P at *
    generalize cyc r 0 = Q at *
    obtain ⟨X, Y⟩ := P
    obtain ⟨Z, U⟩ := Q
    dsimp only at c0 c1 d0 d1 wy1 wy2
    have t1 : (0 : Int) < (l.length : Int) := by omega
    have t2 : (0 : Int) < (r.length : Int) := by omega
    have lf := hfb
    have lg := hgb
    obtain ⟨n, hn⟩ : ∃ n, n = l.length := ⟨_, rfl⟩
    obtain ⟨N, hN⟩ : ∃ N, N = r.length := ⟨_, rfl⟩
    rw [← hn] at Hf h2 h20 t1 ⊢
    rw [← hN] at Hg r2 r20 t2 ⊢
    clear hn hN
    have t3 : 0 < n := by omega
    have t4 : 0 < N := by omega
    go_wp2_with fail
    refine wp_region_any (by kernel_rfl) ?_
    try (change wpAny _ _ _ _ _ _ _ (World.drew _))
    refine wpAny_of_held (S := fun w' => Below (w5.heap.size) w5 w') _ _ _ _ ?_
    have hSw : Below (w5.heap.size) w5 (World.drew w5) := by go_grown
    generalize World.drew w5 = wd at hSw ⊢
    refine wpAnyH_take (i := 0) (v := ?_) rfl (by kernel_rfl) (by kernel_rfl) (by kernel_rfl) (fun _ _ _ h => h) (Or.inl ⟨by rfl, ?_⟩) hSw ?_
    rotate_left
    focus (intro w0 hS0; clear hS0; go_simp; try with_reducible rfl)
    refine wpAnyH_take (i := 1) (v := ?_) rfl (by kernel_rfl) (by kernel_rfl) (by kernel_rfl) (fun _ _ _ h => h) (Or.inl ⟨by rfl, ?_⟩) hSw ?_
    rotate_left
    focus (intro w0 hS0; clear hS0; go_simp; try with_reducible rfl)
    refine wpAnyH_take (i := 2) (v := ?_) rfl (by kernel_rfl) (by kernel_rfl) (by kernel_rfl) (fun _ _ _ h => h) (Or.inl ⟨by kernel_rfl, ?_⟩) hSw ?_
    rotate_left
    focus (intro w0 hS0; clear hS0; go_simp; try with_reducible rfl)
    refine wpAnyH_take (i := 3) (v := ?_) rfl (by kernel_rfl) (by kernel_rfl) (by kernel_rfl) (fun _ _ _ h => h) (Or.inl ⟨by kernel_rfl, ?_⟩) hSw ?_
    rotate_left
    focus (intro w0 hS0; clear hS0; go_simp; try with_reducible rfl)
    refine wpAnyH_ready (rs := [4]) (by kernel_rfl) (by simp) (AllReadyH.cons rfl (fun K hK => ?_) (AllReadyH.nil))
    go_simp
    (refine Calls.mono (sameVecs_eq _ _ _ _ (Hx.out.below hSw) (Ho.out.below hSw)) ?_; rintro e WX ⟨rfl, hbX⟩; replace hSw := belowTo hSw hbX; refine hK.out _ _ hSw (fun _ => ?_); clear hK K hbX)
    refine wpAnyH_take (i := 5) (v := ?_) rfl (by kernel_rfl) (by kernel_rfl) (by kernel_rfl) (fun _ _ _ h => h) (Or.inl ⟨by rfl, ?_⟩) hSw ?_
    rotate_left
    focus (intro w0 hS0; clear hS0; go_simp; try with_reducible rfl)
    refine wpAnyH_take (i := 6) (v := ?_) rfl (by kernel_rfl) (by kernel_rfl) (by kernel_rfl) (fun _ _ _ h => h) (Or.inl ⟨by rfl, ?_⟩) hSw ?_
    rotate_left
    focus (intro w0 hS0; clear hS0; go_simp; try with_reducible rfl)
    refine wpAnyH_take (i := 7) (v := ?_) rfl (by kernel_rfl) (by kernel_rfl) (by kernel_rfl) (fun _ _ _ h => h) (Or.inl ⟨by kernel_rfl, ?_⟩) hSw ?_
    rotate_left
    focus (intro w0 hS0; clear hS0; go_simp; try with_reducible rfl)
    refine wpAnyH_take (i := 8) (v := ?_) rfl (by kernel_rfl) (by kernel_rfl) (by kernel_rfl) (fun _ _ _ h => h) (Or.inl ⟨by kernel_rfl, ?_⟩) hSw ?_
    rotate_left
    focus (intro w0 hS0; clear hS0; go_simp; try with_reducible rfl)
    refine wpAnyH_take (i := 9) (v := ?_) rfl (by kernel_rfl) (by kernel_rfl) (by kernel_rfl) (fun _ _ _ h => h) (Or.inl ⟨by kernel_rfl, ?_⟩) hSw ?_
    rotate_left
    focus (intro w0 hS0; clear hS0; go_simp; try with_reducible rfl)
    refine wpAnyH_take (i := 10) (v := ?_) rfl (by kernel_rfl) (by kernel_rfl) (by kernel_rfl) (fun _ _ _ h => h) (Or.inl ⟨by kernel_rfl, ?_⟩) hSw ?_
    rotate_left
    focus (intro w0 hS0; clear hS0; go_simp; try with_reducible rfl)
    refine wpAnyH_take (i := 11) (v := ?_) rfl (by kernel_rfl) (by kernel_rfl) (by kernel_rfl) (fun _ _ _ h => h) (Or.inl ⟨by kernel_rfl, ?_⟩) hSw ?_
    rotate_left
    focus (intro w0 hS0; have r0 := (hS0.cell (p := ⟨fb, fo, none⟩) lf).trans c0; have r1 := (hS0.cell (p := ⟨fb, fo + 1, none⟩) lf).trans c1; have r2 := (hS0.cell (p := ⟨gb, go, none⟩) lg).trans d0; have r3 := (hS0.cell (p := ⟨gb, go + 1, none⟩) lg).trans d1; go_simp; try with_reducible rfl)
    refine wpAnyH_take (i := 12) (v := ?_) rfl (by kernel_rfl) (by kernel_rfl) (by kernel_rfl) (fun _ _ _ h => h) (Or.inl ⟨by kernel_rfl, ?_⟩) hSw ?_
    rotate_left
    focus (intro w0 hS0; clear hS0; go_simp; try with_reducible rfl)
    refine wpAnyH_take (i := 13) (v := ?_) rfl (by kernel_rfl) (by kernel_rfl) (by kernel_rfl) (fun _ _ _ h => h) (Or.inl ⟨by kernel_rfl, ?_⟩) hSw ?_
    rotate_left
    focus (intro w0 hS0; clear hS0; go_simp; try with_reducible rfl)
    refine wpAnyH_take (i := 14) (v := ?_) rfl (by kernel_rfl) (by kernel_rfl) (by kernel_rfl) (fun _ _ _ h => h) (Or.inl ⟨by kernel_rfl, ?_⟩) hSw ?_
    rotate_left
    focus (intro w0 hS0; clear hS0; go_simp; try with_reducible rfl)
    refine wpAnyH_take (i := 15) (v := ?_) rfl (by kernel_rfl) (by kernel_rfl) (by kernel_rfl) (fun _ _ _ h => h) (Or.inl ⟨by kernel_rfl, ?_⟩) hSw ?_
    rotate_left
    focus (intro w0 hS0; have r0 := (hS0.cell (p := ⟨fb, fo, none⟩) lf).trans c0; have r1 := (hS0.cell (p := ⟨fb, fo + 1, none⟩) lf).trans c1; have r2 := (hS0.cell (p := ⟨gb, go, none⟩) lg).trans d0; have r3 := (hS0.cell (p := ⟨gb, go + 1, none⟩) lg).trans d1; go_simp; try with_reducible rfl)
    refine wpAnyH_take (i := 16) (v := ?_) rfl (by kernel_rfl) (by kernel_rfl) (by kernel_rfl) (fun _ _ _ h => h) (Or.inl ⟨by kernel_rfl, ?_⟩) hSw ?_
    rotate_left
    focus (intro w0 hS0; clear hS0; go_simp; try with_reducible rfl)
    refine wpAnyH_take (i := 17) (v := ?_) rfl (by kernel_rfl) (by kernel_rfl) (by kernel_rfl) (fun _ _ _ h => h) (Or.inl ⟨by kernel_rfl, ?_⟩) hSw ?_
    rotate_left
    focus (intro w0 hS0; clear hS0; go_simp; try with_reducible rfl)
    refine wpAnyH_take (i := 18) (v := ?_) rfl (by kernel_rfl) (by kernel_rfl) (by kernel_rfl) (fun _ _ _ h => h) (Or.inl ⟨by kernel_rfl, ?_⟩) hSw ?_
    rotate_left
    focus (intro w0 hS0; clear hS0; go_simp; try with_reducible rfl)
    refine wpAnyH_take (i := 19) (v := ?_) rfl (by kernel_rfl) (by kernel_rfl) (by kernel_rfl) (fun _ _ _ h => h) (Or.inl ⟨by kernel_rfl, ?_⟩) hSw ?_
    rotate_left
    focus (intro w0 hS0; clear hS0; go_simp; try with_reducible rfl)
    refine wpAnyH_take (i := 20) (v := ?_) rfl (by kernel_rfl) (by kernel_rfl) (by kernel_rfl) (fun _ _ _ h => h) (Or.inl ⟨by kernel_rfl, ?_⟩) hSw ?_
    rotate_left
    focus (intro w0 hS0; have r0 := (hS0.cell (p := ⟨fb, fo, none⟩) lf).trans c0; have r1 := (hS0.cell (p := ⟨fb, fo + 1, none⟩) lf).trans c1; have r2 := (hS0.cell (p := ⟨gb, go, none⟩) lg).trans d0; have r3 := (hS0.cell (p := ⟨gb, go + 1, none⟩) lg).trans d1; go_simp; try with_reducible rfl)
    refine wpAnyH_take (i := 21) (v := ?_) rfl (by kernel_rfl) (by kernel_rfl) (by kernel_rfl) (fun _ _ _ h => h) (Or.inl ⟨by kernel_rfl, ?_⟩) hSw ?_
    rotate_left
    focus (intro w0 hS0; clear hS0; go_simp; try with_reducible rfl)
    refine wpAnyH_take (i := 22) (v := ?_) rfl (by kernel_rfl) (by kernel_rfl) (by kernel_rfl) (fun _ _ _ h => h) (Or.inl ⟨by kernel_rfl, ?_⟩) hSw ?_
    rotate_left
    focus (intro w0 hS0; clear hS0; go_simp; try with_reducible rfl)
    refine wpAnyH_take (i := 23) (v := ?_) rfl (by kernel_rfl) (by kernel_rfl) (by kernel_rfl) (fun _ _ _ h => h) (Or.inl ⟨by kernel_rfl, ?_⟩) hSw ?_
    rotate_left
    focus (intro w0 hS0; clear hS0; go_simp; try with_reducible rfl)
    refine wpAnyH_take (i := 24) (v := ?_) rfl (by kernel_rfl) (by kernel_rfl) (by kernel_rfl) (fun _ _ _ h => h) (Or.inl ⟨by kernel_rfl, ?_⟩) hSw ?_
    rotate_left
    focus (intro w0 hS0; have r0 := (hS0.cell (p := ⟨fb, fo, none⟩) lf).trans c0; have r1 := (hS0.cell (p := ⟨fb, fo + 1, none⟩) lf).trans c1; have r2 := (hS0.cell (p := ⟨gb, go, none⟩) lg).trans d0; have r3 := (hS0.cell (p := ⟨gb, go + 1, none⟩) lg).trans d1; go_simp; try with_reducible rfl)
    refine wpAnyH_take (i := 25) (v := ?_) rfl (by kernel_rfl) (by kernel_rfl) (by kernel_rfl) (fun _ _ _ h => h) (Or.inl ⟨by kernel_rfl, ?_⟩) hSw ?_
    rotate_left
    focus (intro w0 hS0; clear hS0; go_simp; try with_reducible rfl)
    refine wpAnyH_take (i := 26) (v := ?_) rfl (by kernel_rfl) (by kernel_rfl) (by kernel_rfl) (fun _ _ _ h => h) (Or.inl ⟨by kernel_rfl, ?_⟩) hSw ?_
    rotate_left
    focus (intro w0 hS0; clear hS0; go_simp; try with_reducible rfl)
    refine wpAnyH_ready (rs := [27]) (by kernel_rfl) (by simp) (AllReadyH.cons rfl (fun K hK => ?_) (AllReadyH.nil))
    go_simp
    (refine Calls.mono (C4.out _ _ (Ho.out.below hSw) (HG.out.below hSw)) ?_; rintro e WY ⟨rfl, hbX⟩; replace hSw := belowTo hSw hbX; refine hK.out _ _ hSw (fun _ => ?_); clear hK K hbX)
    refine wpAnyH_take (i := 28) (v := ?_) rfl (by kernel_rfl) (by kernel_rfl) (by kernel_rfl) (fun _ _ _ h => h) (Or.inl ⟨by rfl, ?_⟩) hSw ?_
    rotate_left
    focus (intro w0 hS0; clear hS0; go_simp; try with_reducible rfl)
    refine wpAnyH_take (i := 29) (v := ?_) rfl (by kernel_rfl) (by kernel_rfl) (by kernel_rfl) (fun _ _ _ h => h) (Or.inl ⟨by rfl, ?_⟩) hSw ?_
    rotate_left
    focus (intro w0 hS0; clear hS0; go_simp; try with_reducible rfl)
    refine wpAnyH_done (by kernel_rfl) ?_ _
    have HB9 := Lib.hid (belowTo HB.out hSw)
    clear hSw c0 c1 d0 d1 C4 C1 C2 C3
    go_wp2
    go_returns
    exact ⟨rfl, HB9.out⟩
end Go.Proofs.YtgaeibibeekclaaDoor
