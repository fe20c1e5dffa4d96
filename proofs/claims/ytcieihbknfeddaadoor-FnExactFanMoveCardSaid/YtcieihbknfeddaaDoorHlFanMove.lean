import Derived.Test.YtcieihbknfeddaaDoorPn
import Derived.Test.YtcieihbknfeddaaDoorHlFanOf
import Derived.Test.YtcieihbknfeddaaDoorBl
namespace Go.Proofs.YtcieihbknfeddaaDoor
open Go.RowKit

theorem mv_in {l : List V2} {x y z u : Int} (h : mvB l x y z u = true) : ofB (movedZ l x y z u) = true := by
  unfold mvB at h
  simp only [Bool.and_eq_true] at h
  exact h.2.2
set_option maxHeartbeats 8000000 in
theorem exactFanMove_any (v : Value) (l : List V2) (x y z u : Int) (w : World) (h : ReadsVecs w v l) (hg : EtOk w) :
    Calls Tryd.prog 15 #[v, .agg #[.int .i64 x, .int .i64 y, .int .i64 z, .int .i64 u]] w fun e w' => e = .returned (.bool true) ∧ Below w.heap.size w w' := by
  have h' := h
  obtain ⟨a, c, rfl, _, hm0, _⟩ := h'
  have HZ := Lib.hid (fun w' => szVecS_any a l.length c w' (by omega))
  by_cases hl : l.length ≤ 1048576
  case neg =>
    rw [if_neg hl] at HZ
    clear h
    go_enter Tryd.func15, Tryd.ntmps15
    go_wp2_with fail
    refine Calls.mono (HZ.out _) ?_
    rintro e w1 ⟨rfl, rfl⟩
    go_wp2
    go_returns
    exact ⟨rfl, by go_grown⟩
  case pos =>
    rw [if_pos hl] at HZ
    have HT := Lib.hid (fun w' h' => toVecS_any (.slice a l.length c) l w' h' hl)
    have HS := Lib.hid (fun v' w' h' => specFanMove_any v' l x y z u w' h')
    have HM := Lib.hid (fun v' w' h' hg' => fanMove_any v' l x y z u w' h' hg')
    have HX := Lib.hid (fun v1 v2 b1 b2 w' h1 h2 => eqVecS_same v1 v2 b1 b2 l w' h1 h2)
    have HR := Lib.hid (fun (w' : World) (b : Nat) (v' : Value) (h' : Vecs w' b v' l) => h'.reads (by omega))
    have HH := Lib.hid h
    have HH0 := Lib.hid h
    have hz0 : ¬ 1048576 - (l.length : Int) < 0 := by omega
    have hlen : (gV (mvB l x y z u) (sortL (movedZ l x y z u))).length ≤ 576460752303423488 := gV_len (fun h => by have := fan_len (of_in (mv_in h)); omega)
    generalize mvB l x y z u = K at HS HM hlen
    generalize gV K (sortL (movedZ l x y z u)) = L at HS HM hlen
    have HP := Lib.hid (fun v' b w' h' => markVecS_own v' b l w' h' (by omega))
    have HE := Lib.hid (fun v1 v2 b1 b2 w' h1 h2 => eqVecS_same v1 v2 b1 b2 L w' h1 h2)
    have HQ := Lib.hid (fun v' b w' h' => markVecS_own v' b L w' h' hlen)
    have HO := Lib.hid (fun v' b w' h' => heldVecS_own v' b L.length w' h' hlen)
    have hz1 : (0 : Int) ≤ ((1 + l.length * 2 : Nat) : Int) := by omega
    have hz2 : (0 : Int) ≤ ((1 + L.length * 2 : Nat) : Int) := by omega
    unfold VMarkedV at HP
    unfold VMarkedV at HQ
    generalize ((1 + l.length * 2 : Nat) : Int) = z1 at hz1 HP
    generalize ((1 + L.length * 2 : Nat) : Int) = z2 at hz2 HQ HO
    generalize marks 1 (l.length * 2) = M1 at HP
    generalize marks 1 (L.length * 2) = M2 at HQ HO
    generalize l.length = n at *
    generalize L.length = m at *
    clear h hl hm0 hlen
    go_enter Tryd.func15, Tryd.ntmps15
    go_wp2_with fail
    refine Calls.mono (HZ.out _) ?_
    rintro e w0 ⟨rfl, rfl⟩
    have hA0 : Below w.heap.size w (w.alloc (.cells #[.int .i64 x, .int .i64 y, .int .i64 z, .int .i64 u] 63)) := by go_grown
    have c0_0 : (w.alloc (.cells #[.int .i64 x, .int .i64 y, .int .i64 z, .int .i64 u] 63)).cell? ⟨w.heap.size, 0, none⟩ = some (.int .i64 x) := by simp
    have c0_1 : (w.alloc (.cells #[.int .i64 x, .int .i64 y, .int .i64 z, .int .i64 u] 63)).cell? ⟨w.heap.size, 1, none⟩ = some (.int .i64 y) := by simp
    have c0_2 : (w.alloc (.cells #[.int .i64 x, .int .i64 y, .int .i64 z, .int .i64 u] 63)).cell? ⟨w.heap.size, 2, none⟩ = some (.int .i64 z) := by simp
    have c0_3 : (w.alloc (.cells #[.int .i64 x, .int .i64 y, .int .i64 z, .int .i64 u] 63)).cell? ⟨w.heap.size, 3, none⟩ = some (.int .i64 u) := by simp
    have s0 : w.heap.size < (w.alloc (.cells #[.int .i64 x, .int .i64 y, .int .i64 z, .int .i64 u] 63)).heap.size := by simp only [World.size_alloc]; omega
    replace HH := Lib.hid (HH.out.below hA0)
    generalize (w.alloc (.cells #[.int .i64 x, .int .i64 y, .int .i64 z, .int .i64 u] 63)) = wb at *
    have hA : Below w.heap.size w wb := hA0
    go_wp2
    refine wp_region_any (by kernel_rfl) ?_
    try (change wpAny _ _ _ _ _ _ _ (World.drew _))
    refine wpAny_take (i := 0) (v := ?_) rfl (by kernel_rfl) (by kernel_rfl) (by kernel_rfl) (fun _ _ _ h => h) (Or.inl ⟨by rfl, ?_⟩) ?_
    rotate_left
    focus (intro w0; go_simp; try with_reducible rfl)
    refine wpAny_ready (rs := [1, 2]) (by kernel_rfl) (by simp) (AllReady.cons rfl (fun K hK => ?_) (AllReady.cons rfl (fun K hK => ?_) (AllReady.nil)))
    focus
      go_simp
      (refine Calls.mono (HT.out _ (HH.out.below (by go_grown))) ?_; rintro e w1 ⟨v1, rfl, Iv1, hbX⟩; replace hbX := undrew hbX; replace Iv1 := Lib.hid Iv1; replace c0_0 := (hbX.cell (p := ⟨w.heap.size, 0, none⟩) s0).trans c0_0; replace c0_1 := (hbX.cell (p := ⟨w.heap.size, 1, none⟩) s0).trans c0_1; replace c0_2 := (hbX.cell (p := ⟨w.heap.size, 2, none⟩) s0).trans c0_2; replace c0_3 := (hbX.cell (p := ⟨w.heap.size, 3, none⟩) s0).trans c0_3; replace s0 := Nat.lt_of_lt_of_le s0 hbX.size; replace HH := Lib.hid (HH.out.below hbX); replace hA := belowTo hA hbX; clear hbX)
      refine hK _ _ ?_
      clear hK K
      refine wpAny_ready (rs := [2]) (by kernel_rfl) (by simp) (AllReady.cons rfl (fun K hK => ?_) (AllReady.nil))
      go_simp
      refine hK _ _ ?_
      clear hK K
      refine wpAny_ready (rs := [3]) (by kernel_rfl) (by simp) (AllReady.cons rfl (fun K hK => ?_) (AllReady.nil))
      go_simp
      (refine Calls.mono (toMat_any x y z u _) ?_; rintro e w2 ⟨rfl, hbX⟩; replace c0_0 := (hbX.cell (p := ⟨w.heap.size, 0, none⟩) s0).trans c0_0; replace c0_1 := (hbX.cell (p := ⟨w.heap.size, 1, none⟩) s0).trans c0_1; replace c0_2 := (hbX.cell (p := ⟨w.heap.size, 2, none⟩) s0).trans c0_2; replace c0_3 := (hbX.cell (p := ⟨w.heap.size, 3, none⟩) s0).trans c0_3; replace s0 := Nat.lt_of_lt_of_le s0 hbX.size; replace HH := Lib.hid (HH.out.below hbX); replace hA := belowTo hA hbX; replace Iv1 := Lib.hid (Iv1.out.below hbX); clear hbX)
      refine hK _ _ ?_
      clear hK K
      refine wpAny_ready (rs := [4]) (by kernel_rfl) (by simp) (AllReady.cons rfl (fun K hK => ?_) (AllReady.nil))
      go_simp
      (refine Calls.mono (HS.out _ _ (HR.out _ _ _ Iv1.out)) ?_; rintro e w3 ⟨v0, rfl, I0, hbX⟩; have B0 := Lib.hid (fun k hk => (I0.block k hk).2); replace c0_0 := (hbX.cell (p := ⟨w.heap.size, 0, none⟩) s0).trans c0_0; replace c0_1 := (hbX.cell (p := ⟨w.heap.size, 1, none⟩) s0).trans c0_1; replace c0_2 := (hbX.cell (p := ⟨w.heap.size, 2, none⟩) s0).trans c0_2; replace c0_3 := (hbX.cell (p := ⟨w.heap.size, 3, none⟩) s0).trans c0_3; replace s0 := Nat.lt_of_lt_of_le s0 hbX.size; replace HH := Lib.hid (HH.out.below hbX); replace hA := belowTo hA hbX; replace I0 := Lib.hid I0; clear hbX Iv1)
      refine hK _ _ ?_
      clear hK K
      refine wpAny_take (i := 5) (v := ?_) rfl (by kernel_rfl) (by kernel_rfl) (by kernel_rfl) (fun _ _ _ h => h) (Or.inl ⟨by rfl, ?_⟩) ?_
      rotate_left
      focus (intro w0; go_simp; try with_reducible rfl)
      refine wpAny_take (i := 6) (v := ?_) rfl (by kernel_rfl) (by kernel_rfl) (by kernel_rfl) (fun _ _ _ h => h) (Or.inl ⟨by rfl, ?_⟩) ?_
      rotate_left
      focus (intro w0; go_simp; try with_reducible rfl)
      refine wpAny_take (i := 7) (v := ?_) rfl (by kernel_rfl) (by kernel_rfl) (by kernel_rfl) (fun _ _ _ h => h) (Or.inl ⟨by rfl, ?_⟩) ?_
      rotate_left
      focus (intro w0; go_simp; try with_reducible rfl)
      refine wpAny_take (i := 8) (v := ?_) rfl (by kernel_rfl) (by kernel_rfl) (by kernel_rfl) (fun _ _ _ h => h) (Or.inl ⟨by rfl, ?_⟩) ?_
      rotate_left
      focus (intro w0; go_simp; try with_reducible rfl)
      refine wpAny_take (i := 9) (v := ?_) rfl (by kernel_rfl) (by kernel_rfl) (by kernel_rfl) (fun _ _ _ h => h) (Or.inl ⟨by rfl, ?_⟩) ?_
      rotate_left
      focus (intro w0; go_simp; try with_reducible rfl)
      refine wpAny_seq 10 rfl (by kernel_rfl) ?_
      simp only [List.drop_succ_cons, List.drop_zero]
    rotate_left 1
    focus
      go_simp
      refine hK _ _ ?_
      clear hK K
      refine wpAny_ready (rs := [1]) (by kernel_rfl) (by simp) (AllReady.cons rfl (fun K hK => ?_) (AllReady.nil))
      go_simp
      (refine Calls.mono (HT.out _ (HH.out.below (by go_grown))) ?_; rintro e w1 ⟨v1, rfl, Iv1, hbX⟩; replace hbX := undrew hbX; replace Iv1 := Lib.hid Iv1; replace c0_0 := (hbX.cell (p := ⟨w.heap.size, 0, none⟩) s0).trans c0_0; replace c0_1 := (hbX.cell (p := ⟨w.heap.size, 1, none⟩) s0).trans c0_1; replace c0_2 := (hbX.cell (p := ⟨w.heap.size, 2, none⟩) s0).trans c0_2; replace c0_3 := (hbX.cell (p := ⟨w.heap.size, 3, none⟩) s0).trans c0_3; replace s0 := Nat.lt_of_lt_of_le s0 hbX.size; replace HH := Lib.hid (HH.out.below hbX); replace hA := belowTo hA hbX; clear hbX)
      refine hK _ _ ?_
      clear hK K
      refine wpAny_ready (rs := [3]) (by kernel_rfl) (by simp) (AllReady.cons rfl (fun K hK => ?_) (AllReady.nil))
      go_simp
      (refine Calls.mono (toMat_any x y z u _) ?_; rintro e w2 ⟨rfl, hbX⟩; replace c0_0 := (hbX.cell (p := ⟨w.heap.size, 0, none⟩) s0).trans c0_0; replace c0_1 := (hbX.cell (p := ⟨w.heap.size, 1, none⟩) s0).trans c0_1; replace c0_2 := (hbX.cell (p := ⟨w.heap.size, 2, none⟩) s0).trans c0_2; replace c0_3 := (hbX.cell (p := ⟨w.heap.size, 3, none⟩) s0).trans c0_3; replace s0 := Nat.lt_of_lt_of_le s0 hbX.size; replace HH := Lib.hid (HH.out.below hbX); replace hA := belowTo hA hbX; replace Iv1 := Lib.hid (Iv1.out.below hbX); clear hbX)
      refine hK _ _ ?_
      clear hK K
      refine wpAny_ready (rs := [4]) (by kernel_rfl) (by simp) (AllReady.cons rfl (fun K hK => ?_) (AllReady.nil))
      go_simp
      (refine Calls.mono (HS.out _ _ (HR.out _ _ _ Iv1.out)) ?_; rintro e w3 ⟨v0, rfl, I0, hbX⟩; have B0 := Lib.hid (fun k hk => (I0.block k hk).2); replace c0_0 := (hbX.cell (p := ⟨w.heap.size, 0, none⟩) s0).trans c0_0; replace c0_1 := (hbX.cell (p := ⟨w.heap.size, 1, none⟩) s0).trans c0_1; replace c0_2 := (hbX.cell (p := ⟨w.heap.size, 2, none⟩) s0).trans c0_2; replace c0_3 := (hbX.cell (p := ⟨w.heap.size, 3, none⟩) s0).trans c0_3; replace s0 := Nat.lt_of_lt_of_le s0 hbX.size; replace HH := Lib.hid (HH.out.below hbX); replace hA := belowTo hA hbX; replace I0 := Lib.hid I0; clear hbX Iv1)
      refine hK _ _ ?_
      clear hK K
      refine wpAny_take (i := 5) (v := ?_) rfl (by kernel_rfl) (by kernel_rfl) (by kernel_rfl) (fun _ _ _ h => h) (Or.inl ⟨by rfl, ?_⟩) ?_
      rotate_left
      focus (intro w0; go_simp; try with_reducible rfl)
      refine wpAny_take (i := 6) (v := ?_) rfl (by kernel_rfl) (by kernel_rfl) (by kernel_rfl) (fun _ _ _ h => h) (Or.inl ⟨by rfl, ?_⟩) ?_
      rotate_left
      focus (intro w0; go_simp; try with_reducible rfl)
      refine wpAny_take (i := 7) (v := ?_) rfl (by kernel_rfl) (by kernel_rfl) (by kernel_rfl) (fun _ _ _ h => h) (Or.inl ⟨by rfl, ?_⟩) ?_
      rotate_left
      focus (intro w0; go_simp; try with_reducible rfl)
      refine wpAny_take (i := 8) (v := ?_) rfl (by kernel_rfl) (by kernel_rfl) (by kernel_rfl) (fun _ _ _ h => h) (Or.inl ⟨by rfl, ?_⟩) ?_
      rotate_left
      focus (intro w0; go_simp; try with_reducible rfl)
      refine wpAny_take (i := 9) (v := ?_) rfl (by kernel_rfl) (by kernel_rfl) (by kernel_rfl) (fun _ _ _ h => h) (Or.inl ⟨by rfl, ?_⟩) ?_
      rotate_left
      focus (intro w0; go_simp; try with_reducible rfl)
      refine wpAny_seq 10 rfl (by kernel_rfl) ?_
      simp only [List.drop_succ_cons, List.drop_zero]
    all_goals
      have hwx := hA.size
      have t0 := s0
      go_wp2_with fail
      refine Calls.mono (HT.out _ HH.out) ?_
      rintro e w4 ⟨vx, rfl, Ivx, hb4⟩
      have BX := Lib.hid (fun k hk => (Ivx.block k hk))
      have hs4 := hb4.size
      replace HH := Lib.hid (HH.out.below hb4)
      replace I0 := Lib.hid (I0.out.below hb4)
      replace c0_0 := (hb4.cell (p := ⟨w.heap.size, 0, none⟩) s0).trans c0_0
      replace c0_1 := (hb4.cell (p := ⟨w.heap.size, 1, none⟩) s0).trans c0_1
      replace c0_2 := (hb4.cell (p := ⟨w.heap.size, 2, none⟩) s0).trans c0_2
      replace c0_3 := (hb4.cell (p := ⟨w.heap.size, 3, none⟩) s0).trans c0_3
      replace s0 := Nat.lt_of_lt_of_le s0 hb4.size
      replace Ivx := Lib.hid Ivx
      replace hA := belowTo hA hb4
      clear hb4
      go_wp2_with fail
      refine Calls.mono (toMat_any x y z u _) ?_
      rintro e w5 ⟨rfl, hb5⟩
      have hs5 := hb5.size
      replace HH := Lib.hid (HH.out.below hb5)
      replace I0 := Lib.hid (I0.out.below hb5)
      replace Ivx := Lib.hid (Ivx.out.below hb5)
      replace c0_0 := (hb5.cell (p := ⟨w.heap.size, 0, none⟩) s0).trans c0_0
      replace c0_1 := (hb5.cell (p := ⟨w.heap.size, 1, none⟩) s0).trans c0_1
      replace c0_2 := (hb5.cell (p := ⟨w.heap.size, 2, none⟩) s0).trans c0_2
      replace c0_3 := (hb5.cell (p := ⟨w.heap.size, 3, none⟩) s0).trans c0_3
      replace s0 := Nat.lt_of_lt_of_le s0 hb5.size
      replace hA := belowTo hA hb5
      clear hb5
      have hwg := hA.size
      have u0 := s0
      go_wp2_with fail
      refine Calls.mono (HM.out _ _ (HR.out _ _ _ Ivx.out) (hg.below hA)) ?_
      rintro e w6 ⟨vg, rfl, IG, hb6⟩
      have BG := Lib.hid (fun k hk => (IG.block k hk))
      have hs6 := hb6.size
      replace HH := Lib.hid (HH.out.below hb6)
      replace I0 := Lib.hid (I0.out.below hb6)
      replace Ivx := Lib.hid (Ivx.out.below hb6)
      replace c0_0 := (hb6.cell (p := ⟨w.heap.size, 0, none⟩) s0).trans c0_0
      replace c0_1 := (hb6.cell (p := ⟨w.heap.size, 1, none⟩) s0).trans c0_1
      replace c0_2 := (hb6.cell (p := ⟨w.heap.size, 2, none⟩) s0).trans c0_2
      replace c0_3 := (hb6.cell (p := ⟨w.heap.size, 3, none⟩) s0).trans c0_3
      replace s0 := Nat.lt_of_lt_of_le s0 hb6.size
      replace IG := Lib.hid IG
      replace hA := belowTo hA hb6
      clear hb6
      go_wp2_with fail
      refine Calls.mono (HE.out _ _ _ _ _ IG.out I0.out) ?_
      rintro e w7 ⟨rfl, hb7⟩
      have hs7 := hb7.size
      replace HH := Lib.hid (HH.out.below hb7)
      replace I0 := Lib.hid (I0.out.below hb7)
      replace Ivx := Lib.hid (Ivx.out.below hb7)
      replace IG := Lib.hid (IG.out.below hb7)
      replace c0_0 := (hb7.cell (p := ⟨w.heap.size, 0, none⟩) s0).trans c0_0
      replace c0_1 := (hb7.cell (p := ⟨w.heap.size, 1, none⟩) s0).trans c0_1
      replace c0_2 := (hb7.cell (p := ⟨w.heap.size, 2, none⟩) s0).trans c0_2
      replace c0_3 := (hb7.cell (p := ⟨w.heap.size, 3, none⟩) s0).trans c0_3
      replace s0 := Nat.lt_of_lt_of_le s0 hb7.size
      replace hA := belowTo hA hb7
      clear hb7
      go_wp2_with fail
      refine Calls.mono (HT.out _ HH.out) ?_
      rintro e w8 ⟨v6, rfl, I6, hb8⟩
      have hs8 := hb8.size
      replace HH := Lib.hid (HH.out.below hb8)
      replace I0 := Lib.hid (I0.out.below hb8)
      replace Ivx := Lib.hid (Ivx.out.below hb8)
      replace IG := Lib.hid (IG.out.below hb8)
      replace c0_0 := (hb8.cell (p := ⟨w.heap.size, 0, none⟩) s0).trans c0_0
      replace c0_1 := (hb8.cell (p := ⟨w.heap.size, 1, none⟩) s0).trans c0_1
      replace c0_2 := (hb8.cell (p := ⟨w.heap.size, 2, none⟩) s0).trans c0_2
      replace c0_3 := (hb8.cell (p := ⟨w.heap.size, 3, none⟩) s0).trans c0_3
      replace s0 := Nat.lt_of_lt_of_le s0 hb8.size
      replace I6 := Lib.hid I6
      replace hA := belowTo hA hb8
      clear hb8
      go_wp2_with fail
      refine Calls.mono (HX.out _ _ _ _ _ Ivx.out I6.out) ?_
      rintro e w9 ⟨rfl, hb9⟩
      have hs9 := hb9.size
      replace HH := Lib.hid (HH.out.below hb9)
      replace I0 := Lib.hid (I0.out.below hb9)
      replace Ivx := Lib.hid (Ivx.out.below hb9)
      replace IG := Lib.hid (IG.out.below hb9)
      replace c0_0 := (hb9.cell (p := ⟨w.heap.size, 0, none⟩) s0).trans c0_0
      replace c0_1 := (hb9.cell (p := ⟨w.heap.size, 1, none⟩) s0).trans c0_1
      replace c0_2 := (hb9.cell (p := ⟨w.heap.size, 2, none⟩) s0).trans c0_2
      replace c0_3 := (hb9.cell (p := ⟨w.heap.size, 3, none⟩) s0).trans c0_3
      replace s0 := Nat.lt_of_lt_of_le s0 hb9.size
      replace hA := belowTo hA hb9
      clear hb9 I6
      go_wp2_with fail
      refine Calls.mono (HP.out vx _ _ Ivx.out) ?_
      rintro e w10 ⟨rfl, _, hG⟩
      have hb10 := grown_below (b := w3.heap.size) hG (by omega) (fun k hk => (BX.out k hk).1)
      have hs10 := hb10.size
      replace I0 := Lib.hid (I0.out.far hG (fun k hk e => by have := B0.out k hk; have := (BX.out k e).1; omega))
      replace IG := Lib.hid (IG.out.far hG (fun k hk e => by have := (BG.out k hk).1; have := (BX.out k e).2; omega))
      replace c0_0 := (hb10.cell (p := ⟨w.heap.size, 0, none⟩) t0).trans c0_0
      replace c0_1 := (hb10.cell (p := ⟨w.heap.size, 1, none⟩) t0).trans c0_1
      replace c0_2 := (hb10.cell (p := ⟨w.heap.size, 2, none⟩) t0).trans c0_2
      replace c0_3 := (hb10.cell (p := ⟨w.heap.size, 3, none⟩) t0).trans c0_3
      replace s0 := Nat.lt_of_lt_of_le s0 hb10.size
      replace HH := Lib.hid (HH0.out.below (hA.trans (hb10.mono hwx)))
      replace hA := hA.trans (hb10.mono hwx)
      clear hb10 hG Ivx
      go_wp2_with fail
      refine Calls.mono (HE.out _ _ _ _ _ IG.out I0.out) ?_
      rintro e w11 ⟨rfl, hb11⟩
      have hs11 := hb11.size
      replace HH := Lib.hid (HH.out.below hb11)
      replace I0 := Lib.hid (I0.out.below hb11)
      replace IG := Lib.hid (IG.out.below hb11)
      replace c0_0 := (hb11.cell (p := ⟨w.heap.size, 0, none⟩) s0).trans c0_0
      replace c0_1 := (hb11.cell (p := ⟨w.heap.size, 1, none⟩) s0).trans c0_1
      replace c0_2 := (hb11.cell (p := ⟨w.heap.size, 2, none⟩) s0).trans c0_2
      replace c0_3 := (hb11.cell (p := ⟨w.heap.size, 3, none⟩) s0).trans c0_3
      replace s0 := Nat.lt_of_lt_of_le s0 hb11.size
      replace hA := belowTo hA hb11
      clear hb11
      go_wp2_with fail
      refine Calls.mono (HQ.out vg _ _ IG.out) ?_
      rintro e w12 ⟨rfl, MG, hG⟩
      have hb12 := grown_below (b := w5.heap.size) hG (by omega) (fun k hk => (BG.out k hk).1)
      replace I0 := Lib.hid (I0.out.far hG (fun k hk e => by have := B0.out k hk; have := (BG.out k e).1; omega))
      replace c0_0 := (hb12.cell (p := ⟨w.heap.size, 0, none⟩) u0).trans c0_0
      replace c0_1 := (hb12.cell (p := ⟨w.heap.size, 1, none⟩) u0).trans c0_1
      replace c0_2 := (hb12.cell (p := ⟨w.heap.size, 2, none⟩) u0).trans c0_2
      replace c0_3 := (hb12.cell (p := ⟨w.heap.size, 3, none⟩) u0).trans c0_3
      replace s0 := Nat.lt_of_lt_of_le s0 hb12.size
      replace MG := Lib.hid MG
      replace HH := Lib.hid (HH0.out.below (hA.trans (hb12.mono hwg)))
      replace hA := hA.trans (hb12.mono hwg)
      clear hb12 hG IG B0 BX BG hs4 hs5 hs6 hs7 hs8 hs9 hs10 hs11 hwx hwg
      go_wp2_with fail
      refine Calls.mono (HO.out _ _ _ MG.out) ?_
      rintro e wq ⟨rfl, rfl⟩
      go_wp2
      refine wp_region_any (by kernel_rfl) ?_
      try (change wpAny _ _ _ _ _ _ _ (World.drew _))
      refine wpAny_take (i := 0) (v := ?_) rfl (by kernel_rfl) (by kernel_rfl) (by kernel_rfl) (fun _ _ _ h => h) (Or.inl ⟨by rfl, ?_⟩) ?_
      rotate_left
      focus (intro w0; go_simp; try with_reducible rfl)
      refine wpAny_ready (rs := [1, 2]) (by kernel_rfl) (by simp) (AllReady.cons rfl (fun K hK => ?_) (AllReady.cons rfl (fun K hK => ?_) (AllReady.nil)))
      focus
        go_simp
        (refine Calls.mono (HT.out _ (HH.out.below (by go_grown))) ?_; rintro e w11 ⟨v11, rfl, I11, hbX⟩; replace hbX := undrew hbX; replace I11 := Lib.hid I11; replace c0_0 := (hbX.cell (p := ⟨w.heap.size, 0, none⟩) s0).trans c0_0; replace c0_1 := (hbX.cell (p := ⟨w.heap.size, 1, none⟩) s0).trans c0_1; replace c0_2 := (hbX.cell (p := ⟨w.heap.size, 2, none⟩) s0).trans c0_2; replace c0_3 := (hbX.cell (p := ⟨w.heap.size, 3, none⟩) s0).trans c0_3; replace s0 := Nat.lt_of_lt_of_le s0 hbX.size; replace HH := Lib.hid (HH.out.below hbX); replace hA := belowTo hA hbX; replace I0 := Lib.hid (I0.out.below hbX); replace MG := Lib.hid (MG.out.below hbX); clear hbX)
        refine hK _ _ ?_
        clear hK K
        refine wpAny_ready (rs := [2]) (by kernel_rfl) (by simp) (AllReady.cons rfl (fun K hK => ?_) (AllReady.nil))
        go_simp
        refine hK _ _ ?_
        clear hK K
        refine wpAny_ready (rs := [3]) (by kernel_rfl) (by simp) (AllReady.cons rfl (fun K hK => ?_) (AllReady.nil))
        go_simp
        (refine Calls.mono (toMat_any x y z u _) ?_; rintro e w12 ⟨rfl, hbX⟩; replace c0_0 := (hbX.cell (p := ⟨w.heap.size, 0, none⟩) s0).trans c0_0; replace c0_1 := (hbX.cell (p := ⟨w.heap.size, 1, none⟩) s0).trans c0_1; replace c0_2 := (hbX.cell (p := ⟨w.heap.size, 2, none⟩) s0).trans c0_2; replace c0_3 := (hbX.cell (p := ⟨w.heap.size, 3, none⟩) s0).trans c0_3; replace s0 := Nat.lt_of_lt_of_le s0 hbX.size; replace HH := Lib.hid (HH.out.below hbX); replace hA := belowTo hA hbX; replace I0 := Lib.hid (I0.out.below hbX); replace MG := Lib.hid (MG.out.below hbX); replace I11 := Lib.hid (I11.out.below hbX); clear hbX)
        refine hK _ _ ?_
        clear hK K
        refine wpAny_ready (rs := [4]) (by kernel_rfl) (by simp) (AllReady.cons rfl (fun K hK => ?_) (AllReady.nil))
        go_simp
        (refine Calls.mono (HM.out _ _ (HR.out _ _ _ I11.out) (hg.below hA)) ?_; rintro e w13 ⟨v12, rfl, I12, hbX⟩; replace c0_0 := (hbX.cell (p := ⟨w.heap.size, 0, none⟩) s0).trans c0_0; replace c0_1 := (hbX.cell (p := ⟨w.heap.size, 1, none⟩) s0).trans c0_1; replace c0_2 := (hbX.cell (p := ⟨w.heap.size, 2, none⟩) s0).trans c0_2; replace c0_3 := (hbX.cell (p := ⟨w.heap.size, 3, none⟩) s0).trans c0_3; replace s0 := Nat.lt_of_lt_of_le s0 hbX.size; replace HH := Lib.hid (HH.out.below hbX); replace hA := belowTo hA hbX; replace I0 := Lib.hid (I0.out.below hbX); replace MG := Lib.hid (MG.out.below hbX); replace I12 := Lib.hid I12; clear hbX I11)
        refine hK _ _ ?_
        clear hK K
        refine wpAny_take (i := 5) (v := ?_) rfl (by kernel_rfl) (by kernel_rfl) (by kernel_rfl) (fun _ _ _ h => h) (Or.inl ⟨by rfl, ?_⟩) ?_
        rotate_left
        focus (intro w0; go_simp; try with_reducible rfl)
        refine wpAny_take (i := 6) (v := ?_) rfl (by kernel_rfl) (by kernel_rfl) (by kernel_rfl) (fun _ _ _ h => h) (Or.inl ⟨by rfl, ?_⟩) ?_
        rotate_left
        focus (intro w0; go_simp; try with_reducible rfl)
        refine wpAny_take (i := 7) (v := ?_) rfl (by kernel_rfl) (by kernel_rfl) (by kernel_rfl) (fun _ _ _ h => h) (Or.inl ⟨by rfl, ?_⟩) ?_
        rotate_left
        focus (intro w0; go_simp; try with_reducible rfl)
        refine wpAny_take (i := 8) (v := ?_) rfl (by kernel_rfl) (by kernel_rfl) (by kernel_rfl) (fun _ _ _ h => h) (Or.inl ⟨by rfl, ?_⟩) ?_
        rotate_left
        focus (intro w0; go_simp; try with_reducible rfl)
        refine wpAny_take (i := 9) (v := ?_) rfl (by kernel_rfl) (by kernel_rfl) (by kernel_rfl) (fun _ _ _ h => h) (Or.inl ⟨by rfl, ?_⟩) ?_
        rotate_left
        focus (intro w0; go_simp; try with_reducible rfl)
        refine wpAny_seq 10 rfl (by kernel_rfl) ?_
        simp only [List.drop_succ_cons, List.drop_zero]
      rotate_left 1
      focus
        go_simp
        refine hK _ _ ?_
        clear hK K
        refine wpAny_ready (rs := [1]) (by kernel_rfl) (by simp) (AllReady.cons rfl (fun K hK => ?_) (AllReady.nil))
        go_simp
        (refine Calls.mono (HT.out _ (HH.out.below (by go_grown))) ?_; rintro e w11 ⟨v11, rfl, I11, hbX⟩; replace hbX := undrew hbX; replace I11 := Lib.hid I11; replace c0_0 := (hbX.cell (p := ⟨w.heap.size, 0, none⟩) s0).trans c0_0; replace c0_1 := (hbX.cell (p := ⟨w.heap.size, 1, none⟩) s0).trans c0_1; replace c0_2 := (hbX.cell (p := ⟨w.heap.size, 2, none⟩) s0).trans c0_2; replace c0_3 := (hbX.cell (p := ⟨w.heap.size, 3, none⟩) s0).trans c0_3; replace s0 := Nat.lt_of_lt_of_le s0 hbX.size; replace HH := Lib.hid (HH.out.below hbX); replace hA := belowTo hA hbX; replace I0 := Lib.hid (I0.out.below hbX); replace MG := Lib.hid (MG.out.below hbX); clear hbX)
        refine hK _ _ ?_
        clear hK K
        refine wpAny_ready (rs := [3]) (by kernel_rfl) (by simp) (AllReady.cons rfl (fun K hK => ?_) (AllReady.nil))
        go_simp
        (refine Calls.mono (toMat_any x y z u _) ?_; rintro e w12 ⟨rfl, hbX⟩; replace c0_0 := (hbX.cell (p := ⟨w.heap.size, 0, none⟩) s0).trans c0_0; replace c0_1 := (hbX.cell (p := ⟨w.heap.size, 1, none⟩) s0).trans c0_1; replace c0_2 := (hbX.cell (p := ⟨w.heap.size, 2, none⟩) s0).trans c0_2; replace c0_3 := (hbX.cell (p := ⟨w.heap.size, 3, none⟩) s0).trans c0_3; replace s0 := Nat.lt_of_lt_of_le s0 hbX.size; replace HH := Lib.hid (HH.out.below hbX); replace hA := belowTo hA hbX; replace I0 := Lib.hid (I0.out.below hbX); replace MG := Lib.hid (MG.out.below hbX); replace I11 := Lib.hid (I11.out.below hbX); clear hbX)
        refine hK _ _ ?_
        clear hK K
        refine wpAny_ready (rs := [4]) (by kernel_rfl) (by simp) (AllReady.cons rfl (fun K hK => ?_) (AllReady.nil))
        go_simp
        (refine Calls.mono (HM.out _ _ (HR.out _ _ _ I11.out) (hg.below hA)) ?_; rintro e w13 ⟨v12, rfl, I12, hbX⟩; replace c0_0 := (hbX.cell (p := ⟨w.heap.size, 0, none⟩) s0).trans c0_0; replace c0_1 := (hbX.cell (p := ⟨w.heap.size, 1, none⟩) s0).trans c0_1; replace c0_2 := (hbX.cell (p := ⟨w.heap.size, 2, none⟩) s0).trans c0_2; replace c0_3 := (hbX.cell (p := ⟨w.heap.size, 3, none⟩) s0).trans c0_3; replace s0 := Nat.lt_of_lt_of_le s0 hbX.size; replace HH := Lib.hid (HH.out.below hbX); replace hA := belowTo hA hbX; replace I0 := Lib.hid (I0.out.below hbX); replace MG := Lib.hid (MG.out.below hbX); replace I12 := Lib.hid I12; clear hbX I11)
        refine hK _ _ ?_
        clear hK K
        refine wpAny_take (i := 5) (v := ?_) rfl (by kernel_rfl) (by kernel_rfl) (by kernel_rfl) (fun _ _ _ h => h) (Or.inl ⟨by rfl, ?_⟩) ?_
        rotate_left
        focus (intro w0; go_simp; try with_reducible rfl)
        refine wpAny_take (i := 6) (v := ?_) rfl (by kernel_rfl) (by kernel_rfl) (by kernel_rfl) (fun _ _ _ h => h) (Or.inl ⟨by rfl, ?_⟩) ?_
        rotate_left
        focus (intro w0; go_simp; try with_reducible rfl)
        refine wpAny_take (i := 7) (v := ?_) rfl (by kernel_rfl) (by kernel_rfl) (by kernel_rfl) (fun _ _ _ h => h) (Or.inl ⟨by rfl, ?_⟩) ?_
        rotate_left
        focus (intro w0; go_simp; try with_reducible rfl)
        refine wpAny_take (i := 8) (v := ?_) rfl (by kernel_rfl) (by kernel_rfl) (by kernel_rfl) (fun _ _ _ h => h) (Or.inl ⟨by rfl, ?_⟩) ?_
        rotate_left
        focus (intro w0; go_simp; try with_reducible rfl)
        refine wpAny_take (i := 9) (v := ?_) rfl (by kernel_rfl) (by kernel_rfl) (by kernel_rfl) (fun _ _ _ h => h) (Or.inl ⟨by rfl, ?_⟩) ?_
        rotate_left
        focus (intro w0; go_simp; try with_reducible rfl)
        refine wpAny_seq 10 rfl (by kernel_rfl) ?_
        simp only [List.drop_succ_cons, List.drop_zero]
      all_goals
        go_wp2_with fail
        refine Calls.mono (HE.out _ _ _ _ _ I12.out I0.out) ?_
        rintro e w14 ⟨rfl, hb14⟩
        replace MG := Lib.hid (MG.out.below hb14)
        replace hA := belowTo hA hb14
        clear hb14 I0 I12
        go_wp2_with fail
        refine Calls.mono (HO.out _ _ _ MG.out) ?_
        rintro e wr ⟨rfl, rfl⟩
        go_wp2
        go_returns
        exact ⟨rfl, hA⟩
set_option maxHeartbeats 4000000 in
theorem exactFanMove_row (a : Option Addr) (len cap : Nat) (x y z u : Int) (w : World) (h : VecRow w a len cap) (hg : EtOk w) :
    Calls Tryd.prog 15 #[.slice a len cap, .agg #[.int .i64 x, .int .i64 y, .int .i64 z, .int .i64 u]] w fun e w' => e = .returned (.bool true) ∧ Below w.heap.size w w' := by
  by_cases hl : len ≤ 1048576
  · obtain ⟨l, rfl, hr⟩ := h.reads hl
    exact exactFanMove_any _ l x y z u w hr hg
  · have HZ := Lib.hid (fun w' => szVecS_any a len cap w' h.le_max)
    rw [if_neg hl] at HZ
    clear h
    go_enter Tryd.func15, Tryd.ntmps15
    go_wp2_with fail
    refine Calls.mono (HZ.out _) ?_
    rintro e w1 ⟨rfl, rfl⟩
    go_wp2
    go_returns
    exact ⟨rfl, by go_grown⟩
end Go.Proofs.YtcieihbknfeddaaDoor
