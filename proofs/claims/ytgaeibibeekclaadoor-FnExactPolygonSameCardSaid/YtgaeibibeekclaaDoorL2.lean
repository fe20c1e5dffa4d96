import Derived.Test.YtgaeibibeekclaaDoorXe
import Derived.Test.YtgaeibibeekclaaDoorBj
import Derived.Test.YtgaeibibeekclaaDoorB2
import Derived.Test.YtgaeibibeekclaaDoorI7
import Derived.Test.YtgaeibibeekclaaDoorBg
import Derived.Test.YtgaeibibeekclaaDoorBi
import Derived.Lib.AppendZerosOnto
import Derived.Lib.AppendZeros
import Derived.Lib.SliceRun
import Derived.Laws.IdiomCopy
import Derived.Test.YtgaeibibeekclaaDoorK8
import Derived.Test.YtgaeibibeekclaaDoorK2
/- PolygonSame, the program: matBetween. -/
namespace Go.Proofs.YtgaeibibeekclaaDoor
open Go.RowKit

/-- a way of a polygon -/
def wy2 (u : V2) : Prop := (-200 ≤ u.1 ∧ u.1 ≤ 200) ∧ -200 ≤ u.2 ∧ u.2 ≤ 200
theorem wy2_vec {u : V2} (h : wy2 u) : vecB u.1 u.2 = true := vec_of (by unfold wy2 at h; omega)
theorem mul2 {a b : Int} (ha : -200 ≤ a ∧ a ≤ 200) (hb : -200 ≤ b ∧ b ≤ 200) : -40000 ≤ a * b ∧ a * b ≤ 40000 := by
  have h1 := Int.mul_nonneg (show 0 ≤ a + 200 by omega) (show 0 ≤ b + 200 by omega)
  have h2 := Int.mul_nonneg (show 0 ≤ 200 - a by omega) (show 0 ≤ 200 - b by omega)
  have h3 := Int.mul_nonneg (show 0 ≤ a + 200 by omega) (show 0 ≤ 200 - b by omega)
  have h4 := Int.mul_nonneg (show 0 ≤ 200 - a by omega) (show 0 ≤ b + 200 by omega)
  rw [Int.add_mul, Int.mul_add, Int.mul_add] at h1
  rw [Int.sub_mul, Int.mul_sub, Int.mul_sub] at h2
  rw [Int.add_mul, Int.mul_sub, Int.mul_sub] at h3
  rw [Int.sub_mul, Int.mul_add, Int.mul_add] at h4
  omega
theorem tdiv_small {x d : Int} (hx : -80000 ≤ x ∧ x ≤ 80000) : -80000 ≤ x.tdiv d ∧ x.tdiv d ≤ 80000 := by
  have h : (x.tdiv d).natAbs ≤ x.natAbs := by rw [Int.natAbs_tdiv]; exact Nat.div_le_self _ _
  omega
set_option maxRecDepth 100000 in
set_option maxHeartbeats 32000000 in
theorem matBetween_any (u v r s : V2) (w : World) (hu : wy2 u) (hv : wy2 v) (hr : wy2 r) (hs : wy2 s) (h0 : detV u v ≠ 0) :
    Calls Tryd.prog 98 #[.agg #[.int .i64 (u.1), .int .i64 (u.2)], .agg #[.int .i64 (v.1), .int .i64 (v.2)], .agg #[.int .i64 (r.1), .int .i64 (r.2)], .agg #[.int .i64 (s.1), .int .i64 (s.2)]] w fun e w' => e = .returned (.agg #[.int .i64 ((mtw u v r s).a), .int .i64 ((mtw u v r s).b), .int .i64 ((mtw u v r s).c), .int .i64 ((mtw u v r s).d)]) ∧ Below w.heap.size w w' := by
  have E1 : (mtw u v r s).a = (r.1 * v.2 - s.1 * u.2).tdiv (detV u v) := rfl
  have E2 : (mtw u v r s).b = (s.1 * u.1 - r.1 * v.1).tdiv (detV u v) := rfl
  have E3 : (mtw u v r s).c = (r.2 * v.2 - s.2 * u.2).tdiv (detV u v) := rfl
  have E4 : (mtw u v r s).d = (s.2 * u.1 - r.2 * v.1).tdiv (detV u v) := rfl
  rw [E1, E2, E3, E4]
  have hD : detV u v = detZ u.1 u.2 v.1 v.2 := rfl
  rw [hD] at h0 ⊢
  clear hD E1 E2 E3 E4
  have vu := wy2_vec hu
  have vv := wy2_vec hv
  have vr := wy2_vec hr
  have vs := wy2_vec hs
  obtain ⟨u1, u2⟩ := u
  obtain ⟨v1, v2⟩ := v
  obtain ⟨r1, r2⟩ := r
  obtain ⟨s1, s2⟩ := s
  unfold wy2 at hu hv hr hs
  dsimp only at *
  have HD := Lib.hid (fun w' => detBig_any u1 u2 v1 v2 w' (by unfold big; omega) (by unfold big; omega))
  have sz : ∀ a : Int, -200 ≤ a ∧ a ≤ 200 → szB a = true := fun a h => szB_mk (by omega) (by omega)
  have T1 := Lib.hid (fun w' => times_any r1 r2 v2 w' vr (sz _ hv.2))
  have T2 := Lib.hid (fun w' => times_any s1 s2 u2 w' vs (sz _ hu.2))
  have T3 := Lib.hid (fun w' => times_any s1 s2 u1 w' vs (sz _ hu.1))
  have T4 := Lib.hid (fun w' => times_any r1 r2 v1 w' vr (sz _ hv.1))
  have M1 := Lib.hid (fun w' => minusBig_any (r1 * v2) (r2 * v2) (s1 * u2) (s2 * u2) w' (by have := mul2 hr.1 hv.2; have := mul2 hr.2 hv.2; unfold big; omega) (by have := mul2 hs.1 hu.2; have := mul2 hs.2 hu.2; unfold big; omega))
  have M2 := Lib.hid (fun w' => minusBig_any (s1 * u1) (s2 * u1) (r1 * v1) (r2 * v1) w' (by have := mul2 hs.1 hu.1; have := mul2 hs.2 hu.1; unfold big; omega) (by have := mul2 hr.1 hv.1; have := mul2 hr.2 hv.1; unfold big; omega))
  have B1 : -80000 ≤ r1 * v2 - s1 * u2 ∧ r1 * v2 - s1 * u2 ≤ 80000 := by have := mul2 hr.1 hv.2; have := mul2 hs.1 hu.2; omega
  have B2 : -80000 ≤ s1 * u1 - r1 * v1 ∧ s1 * u1 - r1 * v1 ≤ 80000 := by have := mul2 hs.1 hu.1; have := mul2 hr.1 hv.1; omega
  have B3 : -80000 ≤ r2 * v2 - s2 * u2 ∧ r2 * v2 - s2 * u2 ≤ 80000 := by have := mul2 hr.2 hv.2; have := mul2 hs.2 hu.2; omega
  have B4 : -80000 ≤ s2 * u1 - r2 * v1 ∧ s2 * u1 - r2 * v1 ≤ 80000 := by have := mul2 hs.2 hu.1; have := mul2 hr.2 hv.1; omega
  have Z1 := Lib.hid B1
  have Z2 := Lib.hid B2
  have Z3 := Lib.hid B3
  have Z4 := Lib.hid B4
  generalize r1 * v2 = p1 at *
  generalize r2 * v2 = p2 at *
  generalize s1 * u2 = p3 at *
  generalize s2 * u2 = p4 at *
  generalize s1 * u1 = p5 at *
  generalize s2 * u1 = p6 at *
  generalize r1 * v1 = p7 at *
  generalize r2 * v1 = p8 at *
  generalize detZ u1 u2 v1 v2 = D at *
  clear vu vv vr vs hu hv hr hs sz B1 B2 B3 B4
  generalize p1 - p3 = X1 at *
  generalize p5 - p7 = X2 at *
  generalize p2 - p4 = X3 at *
  generalize p6 - p8 = X4 at *
  go_enter Tryd.func98, Tryd.ntmps98
  go_wp2_with fail
  refine Calls.mono (HD.out _) ?_
  rintro e w1 ⟨rfl, hb1⟩
  have a0 : w1.cell? ⟨w.heap.size, 0, none⟩ = some (.int .i64 u1) := (hb1.cell (p := ⟨w.heap.size, 0, none⟩) (by simp; try omega)).trans (by first | (go_cell; done) | (go_simp; done) | (simp; done))
  have a1 : w1.cell? ⟨w.heap.size, 1, none⟩ = some (.int .i64 u2) := (hb1.cell (p := ⟨w.heap.size, 1, none⟩) (by simp; try omega)).trans (by first | (go_cell; done) | (go_simp; done) | (simp; done))
  have b0 : w1.cell? ⟨w.heap.size + 1, 0, none⟩ = some (.int .i64 v1) := (hb1.cell (p := ⟨w.heap.size + 1, 0, none⟩) (by simp; try omega)).trans (by first | (go_cell; done) | (go_simp; done) | (simp; done))
  have b1 : w1.cell? ⟨w.heap.size + 1, 1, none⟩ = some (.int .i64 v2) := (hb1.cell (p := ⟨w.heap.size + 1, 1, none⟩) (by simp; try omega)).trans (by first | (go_cell; done) | (go_simp; done) | (simp; done))
  have c0 : w1.cell? ⟨w.heap.size + 1 + 1, 0, none⟩ = some (.int .i64 r1) := (hb1.cell (p := ⟨w.heap.size + 1 + 1, 0, none⟩) (by simp; try omega)).trans (by first | (go_cell; done) | (go_simp; done) | (simp; done))
  have c1 : w1.cell? ⟨w.heap.size + 1 + 1, 1, none⟩ = some (.int .i64 r2) := (hb1.cell (p := ⟨w.heap.size + 1 + 1, 1, none⟩) (by simp; try omega)).trans (by first | (go_cell; done) | (go_simp; done) | (simp; done))
  have d0 : w1.cell? ⟨w.heap.size + 1 + 1 + 1, 0, none⟩ = some (.int .i64 s1) := (hb1.cell (p := ⟨w.heap.size + 1 + 1 + 1, 0, none⟩) (by simp; try omega)).trans (by first | (go_cell; done) | (go_simp; done) | (simp; done))
  have d1 : w1.cell? ⟨w.heap.size + 1 + 1 + 1, 1, none⟩ = some (.int .i64 s2) := (hb1.cell (p := ⟨w.heap.size + 1 + 1 + 1, 1, none⟩) (by simp; try omega)).trans (by first | (go_cell; done) | (go_simp; done) | (simp; done))
  have z0 : w1.cell? ⟨w.heap.size + 1 + 1 + 1 + 1, 0, none⟩ = some (.int .i64 0) := (hb1.cell (p := ⟨w.heap.size + 1 + 1 + 1 + 1, 0, none⟩) (by simp; try omega)).trans (by first | (go_cell; done) | (go_simp; done) | (simp; done))
  have z1 : w1.cell? ⟨w.heap.size + 1 + 1 + 1 + 1, 1, none⟩ = some (.int .i64 0) := (hb1.cell (p := ⟨w.heap.size + 1 + 1 + 1 + 1, 1, none⟩) (by simp; try omega)).trans (by first | (go_cell; done) | (go_simp; done) | (simp; done))
  have z2 : w1.cell? ⟨w.heap.size + 1 + 1 + 1 + 1, 2, none⟩ = some (.int .i64 0) := (hb1.cell (p := ⟨w.heap.size + 1 + 1 + 1 + 1, 2, none⟩) (by simp; try omega)).trans (by first | (go_cell; done) | (go_simp; done) | (simp; done))
  have z3 : w1.cell? ⟨w.heap.size + 1 + 1 + 1 + 1, 3, none⟩ = some (.int .i64 0) := (hb1.cell (p := ⟨w.heap.size + 1 + 1 + 1 + 1, 3, none⟩) (by simp; try omega)).trans (by first | (go_cell; done) | (go_simp; done) | (simp; done))
  have zf : ∀ o, w1.frozen? ⟨w.heap.size + 1 + 1 + 1 + 1, o, none⟩ = false := fun o => (hb1.frozen (p := ⟨w.heap.size + 1 + 1 + 1 + 1, o, none⟩) (by simp; try omega)).trans (by first | (go_cell; done) | (go_simp; done) | (simp; done))
  have hB : Below w.heap.size w w1 := belowTo (by go_grown) hb1
  have hs := hb1.size
  simp only [World.size_alloc] at hs
  clear hb1 HD
  have nR : w.heap.size + 1 + 1 + 1 + 1 < w1.heap.size := by omega
  clear hs
  have wR : w.heap.size ≤ w.heap.size + 1 + 1 + 1 + 1 := by omega
  generalize w.heap.size + 1 + 1 + 1 + 1 = bR at *
  generalize w.heap.size + 1 + 1 + 1 = bD at *
  generalize w.heap.size + 1 + 1 = bC at *
  generalize w.heap.size + 1 = bB at *
  go_wp2_with fail
  refine wp_region_any (by kernel_rfl) ?_
  try (change wpAny _ _ _ _ _ _ _ (World.drew _))
  refine wpAny_of_held (S := fun w' => Below (w1.heap.size) w1 w') _ _ _ _ ?_
  have hSw : Below (w1.heap.size) w1 (World.drew w1) := by go_grown
  generalize World.drew w1 = wd at hSw ⊢
  refine wpAnyH_take (i := 0) (v := ?_) rfl (by kernel_rfl) (by kernel_rfl) (by kernel_rfl) (fun _ _ _ h => h) (Or.inl ⟨by rfl, ?_⟩) hSw ?_
  rotate_left
  focus (intro w0 hS0; have k0 := (hS0.cell (p := ⟨w.heap.size, 1, none⟩) (cell_lt a1)).trans a1; have k1 := (hS0.cell (p := ⟨bB, 1, none⟩) (cell_lt b1)).trans b1; have k2 := (hS0.cell (p := ⟨bC, 0, none⟩) (cell_lt c0)).trans c0; have k3 := (hS0.cell (p := ⟨bC, 1, none⟩) (cell_lt c1)).trans c1; have k4 := (hS0.cell (p := ⟨bD, 0, none⟩) (cell_lt d0)).trans d0; have k5 := (hS0.cell (p := ⟨bD, 1, none⟩) (cell_lt d1)).trans d1; clear hS0; go_simp; try with_reducible rfl)
  refine wpAnyH_take (i := 1) (v := ?_) rfl (by kernel_rfl) (by kernel_rfl) (by kernel_rfl) (fun _ _ _ h => h) (Or.inl ⟨by rfl, ?_⟩) hSw ?_
  rotate_left
  focus (intro w0 hS0; clear hS0; go_simp; try with_reducible rfl)
  refine wpAnyH_take (i := 2) (v := ?_) rfl (by kernel_rfl) (by kernel_rfl) (by kernel_rfl) (fun _ _ _ h => h) (Or.inl ⟨by rfl, ?_⟩) hSw ?_
  rotate_left
  focus (intro w0 hS0; have k0 := (hS0.cell (p := ⟨w.heap.size, 1, none⟩) (cell_lt a1)).trans a1; have k1 := (hS0.cell (p := ⟨bB, 1, none⟩) (cell_lt b1)).trans b1; have k2 := (hS0.cell (p := ⟨bC, 0, none⟩) (cell_lt c0)).trans c0; have k3 := (hS0.cell (p := ⟨bC, 1, none⟩) (cell_lt c1)).trans c1; have k4 := (hS0.cell (p := ⟨bD, 0, none⟩) (cell_lt d0)).trans d0; have k5 := (hS0.cell (p := ⟨bD, 1, none⟩) (cell_lt d1)).trans d1; clear hS0; go_simp; try with_reducible rfl)
  refine wpAnyH_take (i := 4) (v := ?_) rfl (by kernel_rfl) (by kernel_rfl) (by kernel_rfl) (fun _ _ _ h => h) (Or.inl ⟨by rfl, ?_⟩) hSw ?_
  rotate_left
  focus (intro w0 hS0; have k0 := (hS0.cell (p := ⟨w.heap.size, 1, none⟩) (cell_lt a1)).trans a1; have k1 := (hS0.cell (p := ⟨bB, 1, none⟩) (cell_lt b1)).trans b1; have k2 := (hS0.cell (p := ⟨bC, 0, none⟩) (cell_lt c0)).trans c0; have k3 := (hS0.cell (p := ⟨bC, 1, none⟩) (cell_lt c1)).trans c1; have k4 := (hS0.cell (p := ⟨bD, 0, none⟩) (cell_lt d0)).trans d0; have k5 := (hS0.cell (p := ⟨bD, 1, none⟩) (cell_lt d1)).trans d1; clear hS0; go_simp; try with_reducible rfl)
  refine wpAnyH_take (i := 5) (v := ?_) rfl (by kernel_rfl) (by kernel_rfl) (by kernel_rfl) (fun _ _ _ h => h) (Or.inl ⟨by rfl, ?_⟩) hSw ?_
  rotate_left
  focus (intro w0 hS0; clear hS0; go_simp; try with_reducible rfl)
  refine wpAnyH_take (i := 6) (v := ?_) rfl (by kernel_rfl) (by kernel_rfl) (by kernel_rfl) (fun _ _ _ h => h) (Or.inl ⟨by rfl, ?_⟩) hSw ?_
  rotate_left
  focus (intro w0 hS0; have k0 := (hS0.cell (p := ⟨w.heap.size, 1, none⟩) (cell_lt a1)).trans a1; have k1 := (hS0.cell (p := ⟨bB, 1, none⟩) (cell_lt b1)).trans b1; have k2 := (hS0.cell (p := ⟨bC, 0, none⟩) (cell_lt c0)).trans c0; have k3 := (hS0.cell (p := ⟨bC, 1, none⟩) (cell_lt c1)).trans c1; have k4 := (hS0.cell (p := ⟨bD, 0, none⟩) (cell_lt d0)).trans d0; have k5 := (hS0.cell (p := ⟨bD, 1, none⟩) (cell_lt d1)).trans d1; clear hS0; go_simp; try with_reducible rfl)
  refine wpAnyH_ready (rs := [3, 9]) (by kernel_rfl) (by simp) (AllReadyH.cons rfl (fun K hK => ?_) (AllReadyH.cons rfl (fun K hK => ?_) (AllReadyH.nil)))
  focus
    go_simp
    (refine Calls.mono (T1.out _) ?_; rintro e wpg ⟨rfl, hbX⟩;  replace hSw := belowTo hSw hbX; refine hK.out _ _ hSw (fun _ => ?_); clear hK K hbX)
    refine wpAnyH_ready (rs := [7, 9]) (by kernel_rfl) (by simp) (AllReadyH.cons rfl (fun K hK => ?_) (AllReadyH.cons rfl (fun K hK => ?_) (AllReadyH.nil)))
    focus
      go_simp
      (refine Calls.mono (T2.out _) ?_; rintro e wqg ⟨rfl, hbX⟩;  replace hSw := belowTo hSw hbX; refine hK.out _ _ hSw (fun _ => ?_); clear hK K hbX)
      refine wpAnyH_ready (rs := [8, 9]) (by kernel_rfl) (by simp) (AllReadyH.cons rfl (fun K hK => ?_) (AllReadyH.cons rfl (fun K hK => ?_) (AllReadyH.nil)))
      focus
        go_simp
        (refine Calls.mono (M1.out _) ?_; rintro e wmg ⟨rfl, hbX⟩;  replace hSw := belowTo hSw hbX; refine hK.out _ _ hSw (fun _ => ?_); clear hK K hbX)
        refine wpAnyH_ready (rs := [9]) (by kernel_rfl) (by simp) (AllReadyH.cons rfl (fun K hK => ?_) (AllReadyH.nil))
        go_simp
        (have hSa : Below w1.heap.size w1 (wmg.alloc (.cells #[.int .i64 0, .int .i64 0] 31)) := hSw.alloc hSw.size _; have Bgy0 : (wmg.alloc (.cells #[.int .i64 0, .int .i64 0] 31)).cell? ⟨wmg.heap.size, 0, none⟩ = some (.int .i64 0) := (by simp); have Bgy1 : (wmg.alloc (.cells #[.int .i64 0, .int .i64 0] 31)).cell? ⟨wmg.heap.size, 1, none⟩ = some (.int .i64 0) := (by simp); have Bgyf : ∀ o, (wmg.alloc (.cells #[.int .i64 0, .int .i64 0] 31)).frozen? ⟨wmg.heap.size, o, none⟩ = false := (fun o => by simp); have Bgya := hSw.size; replace hSw := hSa; clear hSa; refine hK.out _ _ hSw (fun _ => ?_); clear hK K; generalize wmg.alloc (.cells #[.int .i64 0, .int .i64 0] 31) = wag at *; generalize wmg.heap.size = Bg at *)
        refine wpAnyH_ready (rs := [10]) (by kernel_rfl) (by simp) (AllReadyH.cons rfl (fun K hK => ?_) (AllReadyH.nil))
        go_simp
        (have y0 := Bgyf 0; have y1 := Bgyf 1; have g0 : ((wag.setCell ⟨Bg, 0, none⟩ (.int .i64 (X1))).setCell ⟨Bg, 1, none⟩ (.int .i64 (X3))).cell? ⟨Bg, 0, none⟩ = some (.int .i64 (X1)) := (by first | (go_cell; done) | (go_simp; done) | (simp; done)); have g1 : ((wag.setCell ⟨Bg, 0, none⟩ (.int .i64 (X1))).setCell ⟨Bg, 1, none⟩ (.int .i64 (X3))).cell? ⟨Bg, 1, none⟩ = some (.int .i64 (X3)) := (by first | (go_cell; done) | (go_simp; done) | (simp; done)); have hSE : Below w1.heap.size w1 ((wag.setCell ⟨Bg, 0, none⟩ (.int .i64 (X1))).setCell ⟨Bg, 1, none⟩ (.int .i64 (X3))) := (hSw.setCell (p := ⟨Bg, 0, none⟩) Bgya _).setCell (p := ⟨Bg, 1, none⟩) Bgya _; have ng : ¬ Bg = bR := (by omega); have ng2 : ¬ bR = Bg := (by omega); refine hK.out _ _ hSE (fun _ => ?_); clear hK K hSw Bgy0 Bgy1 Bgyf Bgya y0 y1; generalize ((wag.setCell ⟨Bg, 0, none⟩ (.int .i64 (X1))).setCell ⟨Bg, 1, none⟩ (.int .i64 (X3))) = W5 at *)
        refine wpAnyH_done (by kernel_rfl) ?_ _
      rotate_left 1
      focus
        go_simp
        (have hSa : Below w1.heap.size w1 (wqg.alloc (.cells #[.int .i64 0, .int .i64 0] 31)) := hSw.alloc hSw.size _; have Bgy0 : (wqg.alloc (.cells #[.int .i64 0, .int .i64 0] 31)).cell? ⟨wqg.heap.size, 0, none⟩ = some (.int .i64 0) := (by simp); have Bgy1 : (wqg.alloc (.cells #[.int .i64 0, .int .i64 0] 31)).cell? ⟨wqg.heap.size, 1, none⟩ = some (.int .i64 0) := (by simp); have Bgyf : ∀ o, (wqg.alloc (.cells #[.int .i64 0, .int .i64 0] 31)).frozen? ⟨wqg.heap.size, o, none⟩ = false := (fun o => by simp); have Bgya := hSw.size; replace hSw := hSa; clear hSa; refine hK.out _ _ hSw (fun _ => ?_); clear hK K; generalize wqg.alloc (.cells #[.int .i64 0, .int .i64 0] 31) = wag at *; generalize wqg.heap.size = Bg at *)
        refine wpAnyH_ready (rs := [8]) (by kernel_rfl) (by simp) (AllReadyH.cons rfl (fun K hK => ?_) (AllReadyH.nil))
        go_simp
        (refine Calls.mono (M1.out _) ?_; rintro e wmg ⟨rfl, hbX⟩; replace Bgy1 := (hbX.cell (p := ⟨Bg, 1, none⟩) (cell_lt Bgy0)).trans Bgy1; replace Bgyf := (fun o => (hbX.frozen (p := ⟨Bg, o, none⟩) (cell_lt Bgy0)).trans (Bgyf o)); replace Bgy0 := (hbX.cell (p := ⟨Bg, 0, none⟩) (cell_lt Bgy0)).trans Bgy0; replace hSw := belowTo hSw hbX; refine hK.out _ _ hSw (fun _ => ?_); clear hK K hbX)
        refine wpAnyH_ready (rs := [10]) (by kernel_rfl) (by simp) (AllReadyH.cons rfl (fun K hK => ?_) (AllReadyH.nil))
        go_simp
        (have y0 := Bgyf 0; have y1 := Bgyf 1; have g0 : ((wmg.setCell ⟨Bg, 0, none⟩ (.int .i64 (X1))).setCell ⟨Bg, 1, none⟩ (.int .i64 (X3))).cell? ⟨Bg, 0, none⟩ = some (.int .i64 (X1)) := (by first | (go_cell; done) | (go_simp; done) | (simp; done)); have g1 : ((wmg.setCell ⟨Bg, 0, none⟩ (.int .i64 (X1))).setCell ⟨Bg, 1, none⟩ (.int .i64 (X3))).cell? ⟨Bg, 1, none⟩ = some (.int .i64 (X3)) := (by first | (go_cell; done) | (go_simp; done) | (simp; done)); have hSE : Below w1.heap.size w1 ((wmg.setCell ⟨Bg, 0, none⟩ (.int .i64 (X1))).setCell ⟨Bg, 1, none⟩ (.int .i64 (X3))) := (hSw.setCell (p := ⟨Bg, 0, none⟩) Bgya _).setCell (p := ⟨Bg, 1, none⟩) Bgya _; have ng : ¬ Bg = bR := (by omega); have ng2 : ¬ bR = Bg := (by omega); refine hK.out _ _ hSE (fun _ => ?_); clear hK K hSw Bgy0 Bgy1 Bgyf Bgya y0 y1; generalize ((wmg.setCell ⟨Bg, 0, none⟩ (.int .i64 (X1))).setCell ⟨Bg, 1, none⟩ (.int .i64 (X3))) = W5 at *)
        refine wpAnyH_done (by kernel_rfl) ?_ _
    rotate_left 2
    focus
      go_simp
      (have hSa : Below w1.heap.size w1 (wpg.alloc (.cells #[.int .i64 0, .int .i64 0] 31)) := hSw.alloc hSw.size _; have Bgy0 : (wpg.alloc (.cells #[.int .i64 0, .int .i64 0] 31)).cell? ⟨wpg.heap.size, 0, none⟩ = some (.int .i64 0) := (by simp); have Bgy1 : (wpg.alloc (.cells #[.int .i64 0, .int .i64 0] 31)).cell? ⟨wpg.heap.size, 1, none⟩ = some (.int .i64 0) := (by simp); have Bgyf : ∀ o, (wpg.alloc (.cells #[.int .i64 0, .int .i64 0] 31)).frozen? ⟨wpg.heap.size, o, none⟩ = false := (fun o => by simp); have Bgya := hSw.size; replace hSw := hSa; clear hSa; refine hK.out _ _ hSw (fun _ => ?_); clear hK K; generalize wpg.alloc (.cells #[.int .i64 0, .int .i64 0] 31) = wag at *; generalize wpg.heap.size = Bg at *)
      refine wpAnyH_ready (rs := [7]) (by kernel_rfl) (by simp) (AllReadyH.cons rfl (fun K hK => ?_) (AllReadyH.nil))
      go_simp
      (refine Calls.mono (T2.out _) ?_; rintro e wqg ⟨rfl, hbX⟩; replace Bgy1 := (hbX.cell (p := ⟨Bg, 1, none⟩) (cell_lt Bgy0)).trans Bgy1; replace Bgyf := (fun o => (hbX.frozen (p := ⟨Bg, o, none⟩) (cell_lt Bgy0)).trans (Bgyf o)); replace Bgy0 := (hbX.cell (p := ⟨Bg, 0, none⟩) (cell_lt Bgy0)).trans Bgy0; replace hSw := belowTo hSw hbX; refine hK.out _ _ hSw (fun _ => ?_); clear hK K hbX)
      refine wpAnyH_ready (rs := [8]) (by kernel_rfl) (by simp) (AllReadyH.cons rfl (fun K hK => ?_) (AllReadyH.nil))
      go_simp
      (refine Calls.mono (M1.out _) ?_; rintro e wmg ⟨rfl, hbX⟩; replace Bgy1 := (hbX.cell (p := ⟨Bg, 1, none⟩) (cell_lt Bgy0)).trans Bgy1; replace Bgyf := (fun o => (hbX.frozen (p := ⟨Bg, o, none⟩) (cell_lt Bgy0)).trans (Bgyf o)); replace Bgy0 := (hbX.cell (p := ⟨Bg, 0, none⟩) (cell_lt Bgy0)).trans Bgy0; replace hSw := belowTo hSw hbX; refine hK.out _ _ hSw (fun _ => ?_); clear hK K hbX)
      refine wpAnyH_ready (rs := [10]) (by kernel_rfl) (by simp) (AllReadyH.cons rfl (fun K hK => ?_) (AllReadyH.nil))
      go_simp
      (have y0 := Bgyf 0; have y1 := Bgyf 1; have g0 : ((wmg.setCell ⟨Bg, 0, none⟩ (.int .i64 (X1))).setCell ⟨Bg, 1, none⟩ (.int .i64 (X3))).cell? ⟨Bg, 0, none⟩ = some (.int .i64 (X1)) := (by first | (go_cell; done) | (go_simp; done) | (simp; done)); have g1 : ((wmg.setCell ⟨Bg, 0, none⟩ (.int .i64 (X1))).setCell ⟨Bg, 1, none⟩ (.int .i64 (X3))).cell? ⟨Bg, 1, none⟩ = some (.int .i64 (X3)) := (by first | (go_cell; done) | (go_simp; done) | (simp; done)); have hSE : Below w1.heap.size w1 ((wmg.setCell ⟨Bg, 0, none⟩ (.int .i64 (X1))).setCell ⟨Bg, 1, none⟩ (.int .i64 (X3))) := (hSw.setCell (p := ⟨Bg, 0, none⟩) Bgya _).setCell (p := ⟨Bg, 1, none⟩) Bgya _; have ng : ¬ Bg = bR := (by omega); have ng2 : ¬ bR = Bg := (by omega); refine hK.out _ _ hSE (fun _ => ?_); clear hK K hSw Bgy0 Bgy1 Bgyf Bgya y0 y1; generalize ((wmg.setCell ⟨Bg, 0, none⟩ (.int .i64 (X1))).setCell ⟨Bg, 1, none⟩ (.int .i64 (X3))) = W5 at *)
      refine wpAnyH_done (by kernel_rfl) ?_ _
  rotate_left 3
  focus
    go_simp
    (have hSa : Below w1.heap.size w1 (wd.alloc (.cells #[.int .i64 0, .int .i64 0] 31)) := hSw.alloc hSw.size _; have Bgy0 : (wd.alloc (.cells #[.int .i64 0, .int .i64 0] 31)).cell? ⟨wd.heap.size, 0, none⟩ = some (.int .i64 0) := (by simp); have Bgy1 : (wd.alloc (.cells #[.int .i64 0, .int .i64 0] 31)).cell? ⟨wd.heap.size, 1, none⟩ = some (.int .i64 0) := (by simp); have Bgyf : ∀ o, (wd.alloc (.cells #[.int .i64 0, .int .i64 0] 31)).frozen? ⟨wd.heap.size, o, none⟩ = false := (fun o => by simp); have Bgya := hSw.size; replace hSw := hSa; clear hSa; refine hK.out _ _ hSw (fun _ => ?_); clear hK K; generalize wd.alloc (.cells #[.int .i64 0, .int .i64 0] 31) = wag at *; generalize wd.heap.size = Bg at *)
    refine wpAnyH_ready (rs := [3]) (by kernel_rfl) (by simp) (AllReadyH.cons rfl (fun K hK => ?_) (AllReadyH.nil))
    go_simp
    (refine Calls.mono (T1.out _) ?_; rintro e wpg ⟨rfl, hbX⟩; replace Bgy1 := (hbX.cell (p := ⟨Bg, 1, none⟩) (cell_lt Bgy0)).trans Bgy1; replace Bgyf := (fun o => (hbX.frozen (p := ⟨Bg, o, none⟩) (cell_lt Bgy0)).trans (Bgyf o)); replace Bgy0 := (hbX.cell (p := ⟨Bg, 0, none⟩) (cell_lt Bgy0)).trans Bgy0; replace hSw := belowTo hSw hbX; refine hK.out _ _ hSw (fun _ => ?_); clear hK K hbX)
    refine wpAnyH_ready (rs := [7]) (by kernel_rfl) (by simp) (AllReadyH.cons rfl (fun K hK => ?_) (AllReadyH.nil))
    go_simp
    (refine Calls.mono (T2.out _) ?_; rintro e wqg ⟨rfl, hbX⟩; replace Bgy1 := (hbX.cell (p := ⟨Bg, 1, none⟩) (cell_lt Bgy0)).trans Bgy1; replace Bgyf := (fun o => (hbX.frozen (p := ⟨Bg, o, none⟩) (cell_lt Bgy0)).trans (Bgyf o)); replace Bgy0 := (hbX.cell (p := ⟨Bg, 0, none⟩) (cell_lt Bgy0)).trans Bgy0; replace hSw := belowTo hSw hbX; refine hK.out _ _ hSw (fun _ => ?_); clear hK K hbX)
    refine wpAnyH_ready (rs := [8]) (by kernel_rfl) (by simp) (AllReadyH.cons rfl (fun K hK => ?_) (AllReadyH.nil))
    go_simp
    (refine Calls.mono (M1.out _) ?_; rintro e wmg ⟨rfl, hbX⟩; replace Bgy1 := (hbX.cell (p := ⟨Bg, 1, none⟩) (cell_lt Bgy0)).trans Bgy1; replace Bgyf := (fun o => (hbX.frozen (p := ⟨Bg, o, none⟩) (cell_lt Bgy0)).trans (Bgyf o)); replace Bgy0 := (hbX.cell (p := ⟨Bg, 0, none⟩) (cell_lt Bgy0)).trans Bgy0; replace hSw := belowTo hSw hbX; refine hK.out _ _ hSw (fun _ => ?_); clear hK K hbX)
    refine wpAnyH_ready (rs := [10]) (by kernel_rfl) (by simp) (AllReadyH.cons rfl (fun K hK => ?_) (AllReadyH.nil))
    go_simp
    (have y0 := Bgyf 0; have y1 := Bgyf 1; have g0 : ((wmg.setCell ⟨Bg, 0, none⟩ (.int .i64 (X1))).setCell ⟨Bg, 1, none⟩ (.int .i64 (X3))).cell? ⟨Bg, 0, none⟩ = some (.int .i64 (X1)) := (by first | (go_cell; done) | (go_simp; done) | (simp; done)); have g1 : ((wmg.setCell ⟨Bg, 0, none⟩ (.int .i64 (X1))).setCell ⟨Bg, 1, none⟩ (.int .i64 (X3))).cell? ⟨Bg, 1, none⟩ = some (.int .i64 (X3)) := (by first | (go_cell; done) | (go_simp; done) | (simp; done)); have hSE : Below w1.heap.size w1 ((wmg.setCell ⟨Bg, 0, none⟩ (.int .i64 (X1))).setCell ⟨Bg, 1, none⟩ (.int .i64 (X3))) := (hSw.setCell (p := ⟨Bg, 0, none⟩) Bgya _).setCell (p := ⟨Bg, 1, none⟩) Bgya _; have ng : ¬ Bg = bR := (by omega); have ng2 : ¬ bR = Bg := (by omega); refine hK.out _ _ hSE (fun _ => ?_); clear hK K hSw Bgy0 Bgy1 Bgyf Bgya y0 y1; generalize ((wmg.setCell ⟨Bg, 0, none⟩ (.int .i64 (X1))).setCell ⟨Bg, 1, none⟩ (.int .i64 (X3))) = W5 at *)
    refine wpAnyH_done (by kernel_rfl) ?_ _
  all_goals
    replace a1 := (hSE.cell (p := ⟨w.heap.size, 1, none⟩) (cell_lt a0)).trans a1
    replace a0 := (hSE.cell (p := ⟨w.heap.size, 0, none⟩) (cell_lt a0)).trans a0
    replace b1 := (hSE.cell (p := ⟨bB, 1, none⟩) (cell_lt b0)).trans b1
    replace b0 := (hSE.cell (p := ⟨bB, 0, none⟩) (cell_lt b0)).trans b0
    replace c1 := (hSE.cell (p := ⟨bC, 1, none⟩) (cell_lt c0)).trans c1
    replace c0 := (hSE.cell (p := ⟨bC, 0, none⟩) (cell_lt c0)).trans c0
    replace d1 := (hSE.cell (p := ⟨bD, 1, none⟩) (cell_lt d0)).trans d1
    replace d0 := (hSE.cell (p := ⟨bD, 0, none⟩) (cell_lt d0)).trans d0
    replace z1 := (hSE.cell (p := ⟨bR, 1, none⟩) nR).trans z1
    replace z2 := (hSE.cell (p := ⟨bR, 2, none⟩) nR).trans z2
    replace z3 := (hSE.cell (p := ⟨bR, 3, none⟩) nR).trans z3
    replace z0 := (hSE.cell (p := ⟨bR, 0, none⟩) nR).trans z0
    replace zf := fun o => (hSE.frozen (p := ⟨bR, o, none⟩) nR).trans (zf o)
    replace nR : bR < W5.heap.size := Nat.lt_of_lt_of_le nR hSE.size
    replace hB := belowTo hB hSE
    clear hSE T1 T2 M1
    go_wp2_with fail
    refine wp_region_any (by kernel_rfl) ?_
    try (change wpAny _ _ _ _ _ _ _ (World.drew _))
    refine wpAny_of_held (S := fun w' => Below (W5.heap.size) W5 w') _ _ _ _ ?_
    have hSw : Below (W5.heap.size) W5 (World.drew W5) := by go_grown
    generalize World.drew W5 = wd at hSw ⊢
    refine wpAnyH_take (i := 0) (v := ?_) rfl (by kernel_rfl) (by kernel_rfl) (by kernel_rfl) (fun _ _ _ h => h) (Or.inl ⟨by rfl, ?_⟩) hSw ?_
    rotate_left
    focus (intro w0 hS0; have k0 := (hS0.cell (p := ⟨w.heap.size, 0, none⟩) (cell_lt a0)).trans a0; have k1 := (hS0.cell (p := ⟨bB, 0, none⟩) (cell_lt b0)).trans b0; have k2 := (hS0.cell (p := ⟨bC, 0, none⟩) (cell_lt c0)).trans c0; have k3 := (hS0.cell (p := ⟨bC, 1, none⟩) (cell_lt c1)).trans c1; have k4 := (hS0.cell (p := ⟨bD, 0, none⟩) (cell_lt d0)).trans d0; have k5 := (hS0.cell (p := ⟨bD, 1, none⟩) (cell_lt d1)).trans d1; clear hS0; go_simp; try with_reducible rfl)
    refine wpAnyH_take (i := 1) (v := ?_) rfl (by kernel_rfl) (by kernel_rfl) (by kernel_rfl) (fun _ _ _ h => h) (Or.inl ⟨by rfl, ?_⟩) hSw ?_
    rotate_left
    focus (intro w0 hS0; clear hS0; go_simp; try with_reducible rfl)
    refine wpAnyH_take (i := 2) (v := ?_) rfl (by kernel_rfl) (by kernel_rfl) (by kernel_rfl) (fun _ _ _ h => h) (Or.inl ⟨by rfl, ?_⟩) hSw ?_
    rotate_left
    focus (intro w0 hS0; have k0 := (hS0.cell (p := ⟨w.heap.size, 0, none⟩) (cell_lt a0)).trans a0; have k1 := (hS0.cell (p := ⟨bB, 0, none⟩) (cell_lt b0)).trans b0; have k2 := (hS0.cell (p := ⟨bC, 0, none⟩) (cell_lt c0)).trans c0; have k3 := (hS0.cell (p := ⟨bC, 1, none⟩) (cell_lt c1)).trans c1; have k4 := (hS0.cell (p := ⟨bD, 0, none⟩) (cell_lt d0)).trans d0; have k5 := (hS0.cell (p := ⟨bD, 1, none⟩) (cell_lt d1)).trans d1; clear hS0; go_simp; try with_reducible rfl)
    refine wpAnyH_take (i := 4) (v := ?_) rfl (by kernel_rfl) (by kernel_rfl) (by kernel_rfl) (fun _ _ _ h => h) (Or.inl ⟨by rfl, ?_⟩) hSw ?_
    rotate_left
    focus (intro w0 hS0; have k0 := (hS0.cell (p := ⟨w.heap.size, 0, none⟩) (cell_lt a0)).trans a0; have k1 := (hS0.cell (p := ⟨bB, 0, none⟩) (cell_lt b0)).trans b0; have k2 := (hS0.cell (p := ⟨bC, 0, none⟩) (cell_lt c0)).trans c0; have k3 := (hS0.cell (p := ⟨bC, 1, none⟩) (cell_lt c1)).trans c1; have k4 := (hS0.cell (p := ⟨bD, 0, none⟩) (cell_lt d0)).trans d0; have k5 := (hS0.cell (p := ⟨bD, 1, none⟩) (cell_lt d1)).trans d1; clear hS0; go_simp; try with_reducible rfl)
    refine wpAnyH_take (i := 5) (v := ?_) rfl (by kernel_rfl) (by kernel_rfl) (by kernel_rfl) (fun _ _ _ h => h) (Or.inl ⟨by rfl, ?_⟩) hSw ?_
    rotate_left
    focus (intro w0 hS0; clear hS0; go_simp; try with_reducible rfl)
    refine wpAnyH_take (i := 6) (v := ?_) rfl (by kernel_rfl) (by kernel_rfl) (by kernel_rfl) (fun _ _ _ h => h) (Or.inl ⟨by rfl, ?_⟩) hSw ?_
    rotate_left
    focus (intro w0 hS0; have k0 := (hS0.cell (p := ⟨w.heap.size, 0, none⟩) (cell_lt a0)).trans a0; have k1 := (hS0.cell (p := ⟨bB, 0, none⟩) (cell_lt b0)).trans b0; have k2 := (hS0.cell (p := ⟨bC, 0, none⟩) (cell_lt c0)).trans c0; have k3 := (hS0.cell (p := ⟨bC, 1, none⟩) (cell_lt c1)).trans c1; have k4 := (hS0.cell (p := ⟨bD, 0, none⟩) (cell_lt d0)).trans d0; have k5 := (hS0.cell (p := ⟨bD, 1, none⟩) (cell_lt d1)).trans d1; clear hS0; go_simp; try with_reducible rfl)
    refine wpAnyH_ready (rs := [3, 9]) (by kernel_rfl) (by simp) (AllReadyH.cons rfl (fun K hK => ?_) (AllReadyH.cons rfl (fun K hK => ?_) (AllReadyH.nil)))
    focus
      go_simp
      (refine Calls.mono (T3.out _) ?_; rintro e wpm ⟨rfl, hbX⟩;  replace hSw := belowTo hSw hbX; refine hK.out _ _ hSw (fun _ => ?_); clear hK K hbX)
      refine wpAnyH_ready (rs := [7, 9]) (by kernel_rfl) (by simp) (AllReadyH.cons rfl (fun K hK => ?_) (AllReadyH.cons rfl (fun K hK => ?_) (AllReadyH.nil)))
      focus
        go_simp
        (refine Calls.mono (T4.out _) ?_; rintro e wqm ⟨rfl, hbX⟩;  replace hSw := belowTo hSw hbX; refine hK.out _ _ hSw (fun _ => ?_); clear hK K hbX)
        refine wpAnyH_ready (rs := [8, 9]) (by kernel_rfl) (by simp) (AllReadyH.cons rfl (fun K hK => ?_) (AllReadyH.cons rfl (fun K hK => ?_) (AllReadyH.nil)))
        focus
          go_simp
          (refine Calls.mono (M2.out _) ?_; rintro e wmm ⟨rfl, hbX⟩;  replace hSw := belowTo hSw hbX; refine hK.out _ _ hSw (fun _ => ?_); clear hK K hbX)
          refine wpAnyH_ready (rs := [9]) (by kernel_rfl) (by simp) (AllReadyH.cons rfl (fun K hK => ?_) (AllReadyH.nil))
          go_simp
          (have hSa : Below W5.heap.size W5 (wmm.alloc (.cells #[.int .i64 0, .int .i64 0] 31)) := hSw.alloc hSw.size _; have Bmy0 : (wmm.alloc (.cells #[.int .i64 0, .int .i64 0] 31)).cell? ⟨wmm.heap.size, 0, none⟩ = some (.int .i64 0) := (by simp); have Bmy1 : (wmm.alloc (.cells #[.int .i64 0, .int .i64 0] 31)).cell? ⟨wmm.heap.size, 1, none⟩ = some (.int .i64 0) := (by simp); have Bmyf : ∀ o, (wmm.alloc (.cells #[.int .i64 0, .int .i64 0] 31)).frozen? ⟨wmm.heap.size, o, none⟩ = false := (fun o => by simp); have Bmya := hSw.size; replace hSw := hSa; clear hSa; refine hK.out _ _ hSw (fun _ => ?_); clear hK K; generalize wmm.alloc (.cells #[.int .i64 0, .int .i64 0] 31) = wam at *; generalize wmm.heap.size = Bm at *)
          refine wpAnyH_ready (rs := [10]) (by kernel_rfl) (by simp) (AllReadyH.cons rfl (fun K hK => ?_) (AllReadyH.nil))
          go_simp
          (have y0 := Bmyf 0; have y1 := Bmyf 1; have m0 : ((wam.setCell ⟨Bm, 0, none⟩ (.int .i64 (X2))).setCell ⟨Bm, 1, none⟩ (.int .i64 (X4))).cell? ⟨Bm, 0, none⟩ = some (.int .i64 (X2)) := (by first | (go_cell; done) | (go_simp; done) | (simp; done)); have m1 : ((wam.setCell ⟨Bm, 0, none⟩ (.int .i64 (X2))).setCell ⟨Bm, 1, none⟩ (.int .i64 (X4))).cell? ⟨Bm, 1, none⟩ = some (.int .i64 (X4)) := (by first | (go_cell; done) | (go_simp; done) | (simp; done)); have hSE : Below W5.heap.size W5 ((wam.setCell ⟨Bm, 0, none⟩ (.int .i64 (X2))).setCell ⟨Bm, 1, none⟩ (.int .i64 (X4))) := (hSw.setCell (p := ⟨Bm, 0, none⟩) Bmya _).setCell (p := ⟨Bm, 1, none⟩) Bmya _; have nm : ¬ Bm = bR := (by omega); have nm2 : ¬ bR = Bm := (by omega); refine hK.out _ _ hSE (fun _ => ?_); clear hK K hSw Bmy0 Bmy1 Bmyf Bmya y0 y1; generalize ((wam.setCell ⟨Bm, 0, none⟩ (.int .i64 (X2))).setCell ⟨Bm, 1, none⟩ (.int .i64 (X4))) = W7 at *)
          refine wpAnyH_done (by kernel_rfl) ?_ _
        rotate_left 1
        focus
          go_simp
          (have hSa : Below W5.heap.size W5 (wqm.alloc (.cells #[.int .i64 0, .int .i64 0] 31)) := hSw.alloc hSw.size _; have Bmy0 : (wqm.alloc (.cells #[.int .i64 0, .int .i64 0] 31)).cell? ⟨wqm.heap.size, 0, none⟩ = some (.int .i64 0) := (by simp); have Bmy1 : (wqm.alloc (.cells #[.int .i64 0, .int .i64 0] 31)).cell? ⟨wqm.heap.size, 1, none⟩ = some (.int .i64 0) := (by simp); have Bmyf : ∀ o, (wqm.alloc (.cells #[.int .i64 0, .int .i64 0] 31)).frozen? ⟨wqm.heap.size, o, none⟩ = false := (fun o => by simp); have Bmya := hSw.size; replace hSw := hSa; clear hSa; refine hK.out _ _ hSw (fun _ => ?_); clear hK K; generalize wqm.alloc (.cells #[.int .i64 0, .int .i64 0] 31) = wam at *; generalize wqm.heap.size = Bm at *)
          refine wpAnyH_ready (rs := [8]) (by kernel_rfl) (by simp) (AllReadyH.cons rfl (fun K hK => ?_) (AllReadyH.nil))
          go_simp
          (refine Calls.mono (M2.out _) ?_; rintro e wmm ⟨rfl, hbX⟩; replace Bmy1 := (hbX.cell (p := ⟨Bm, 1, none⟩) (cell_lt Bmy0)).trans Bmy1; replace Bmyf := (fun o => (hbX.frozen (p := ⟨Bm, o, none⟩) (cell_lt Bmy0)).trans (Bmyf o)); replace Bmy0 := (hbX.cell (p := ⟨Bm, 0, none⟩) (cell_lt Bmy0)).trans Bmy0; replace hSw := belowTo hSw hbX; refine hK.out _ _ hSw (fun _ => ?_); clear hK K hbX)
          refine wpAnyH_ready (rs := [10]) (by kernel_rfl) (by simp) (AllReadyH.cons rfl (fun K hK => ?_) (AllReadyH.nil))
          go_simp
          (have y0 := Bmyf 0; have y1 := Bmyf 1; have m0 : ((wmm.setCell ⟨Bm, 0, none⟩ (.int .i64 (X2))).setCell ⟨Bm, 1, none⟩ (.int .i64 (X4))).cell? ⟨Bm, 0, none⟩ = some (.int .i64 (X2)) := (by first | (go_cell; done) | (go_simp; done) | (simp; done)); have m1 : ((wmm.setCell ⟨Bm, 0, none⟩ (.int .i64 (X2))).setCell ⟨Bm, 1, none⟩ (.int .i64 (X4))).cell? ⟨Bm, 1, none⟩ = some (.int .i64 (X4)) := (by first | (go_cell; done) | (go_simp; done) | (simp; done)); have hSE : Below W5.heap.size W5 ((wmm.setCell ⟨Bm, 0, none⟩ (.int .i64 (X2))).setCell ⟨Bm, 1, none⟩ (.int .i64 (X4))) := (hSw.setCell (p := ⟨Bm, 0, none⟩) Bmya _).setCell (p := ⟨Bm, 1, none⟩) Bmya _; have nm : ¬ Bm = bR := (by omega); have nm2 : ¬ bR = Bm := (by omega); refine hK.out _ _ hSE (fun _ => ?_); clear hK K hSw Bmy0 Bmy1 Bmyf Bmya y0 y1; generalize ((wmm.setCell ⟨Bm, 0, none⟩ (.int .i64 (X2))).setCell ⟨Bm, 1, none⟩ (.int .i64 (X4))) = W7 at *)
          refine wpAnyH_done (by kernel_rfl) ?_ _
      rotate_left 2
      focus
        go_simp
        (have hSa : Below W5.heap.size W5 (wpm.alloc (.cells #[.int .i64 0, .int .i64 0] 31)) := hSw.alloc hSw.size _; have Bmy0 : (wpm.alloc (.cells #[.int .i64 0, .int .i64 0] 31)).cell? ⟨wpm.heap.size, 0, none⟩ = some (.int .i64 0) := (by simp); have Bmy1 : (wpm.alloc (.cells #[.int .i64 0, .int .i64 0] 31)).cell? ⟨wpm.heap.size, 1, none⟩ = some (.int .i64 0) := (by simp); have Bmyf : ∀ o, (wpm.alloc (.cells #[.int .i64 0, .int .i64 0] 31)).frozen? ⟨wpm.heap.size, o, none⟩ = false := (fun o => by simp); have Bmya := hSw.size; replace hSw := hSa; clear hSa; refine hK.out _ _ hSw (fun _ => ?_); clear hK K; generalize wpm.alloc (.cells #[.int .i64 0, .int .i64 0] 31) = wam at *; generalize wpm.heap.size = Bm at *)
        refine wpAnyH_ready (rs := [7]) (by kernel_rfl) (by simp) (AllReadyH.cons rfl (fun K hK => ?_) (AllReadyH.nil))
        go_simp
        (refine Calls.mono (T4.out _) ?_; rintro e wqm ⟨rfl, hbX⟩; replace Bmy1 := (hbX.cell (p := ⟨Bm, 1, none⟩) (cell_lt Bmy0)).trans Bmy1; replace Bmyf := (fun o => (hbX.frozen (p := ⟨Bm, o, none⟩) (cell_lt Bmy0)).trans (Bmyf o)); replace Bmy0 := (hbX.cell (p := ⟨Bm, 0, none⟩) (cell_lt Bmy0)).trans Bmy0; replace hSw := belowTo hSw hbX; refine hK.out _ _ hSw (fun _ => ?_); clear hK K hbX)
        refine wpAnyH_ready (rs := [8]) (by kernel_rfl) (by simp) (AllReadyH.cons rfl (fun K hK => ?_) (AllReadyH.nil))
        go_simp
        (refine Calls.mono (M2.out _) ?_; rintro e wmm ⟨rfl, hbX⟩; replace Bmy1 := (hbX.cell (p := ⟨Bm, 1, none⟩) (cell_lt Bmy0)).trans Bmy1; replace Bmyf := (fun o => (hbX.frozen (p := ⟨Bm, o, none⟩) (cell_lt Bmy0)).trans (Bmyf o)); replace Bmy0 := (hbX.cell (p := ⟨Bm, 0, none⟩) (cell_lt Bmy0)).trans Bmy0; replace hSw := belowTo hSw hbX; refine hK.out _ _ hSw (fun _ => ?_); clear hK K hbX)
        refine wpAnyH_ready (rs := [10]) (by kernel_rfl) (by simp) (AllReadyH.cons rfl (fun K hK => ?_) (AllReadyH.nil))
        go_simp
        (have y0 := Bmyf 0; have y1 := Bmyf 1; have m0 : ((wmm.setCell ⟨Bm, 0, none⟩ (.int .i64 (X2))).setCell ⟨Bm, 1, none⟩ (.int .i64 (X4))).cell? ⟨Bm, 0, none⟩ = some (.int .i64 (X2)) := (by first | (go_cell; done) | (go_simp; done) | (simp; done)); have m1 : ((wmm.setCell ⟨Bm, 0, none⟩ (.int .i64 (X2))).setCell ⟨Bm, 1, none⟩ (.int .i64 (X4))).cell? ⟨Bm, 1, none⟩ = some (.int .i64 (X4)) := (by first | (go_cell; done) | (go_simp; done) | (simp; done)); have hSE : Below W5.heap.size W5 ((wmm.setCell ⟨Bm, 0, none⟩ (.int .i64 (X2))).setCell ⟨Bm, 1, none⟩ (.int .i64 (X4))) := (hSw.setCell (p := ⟨Bm, 0, none⟩) Bmya _).setCell (p := ⟨Bm, 1, none⟩) Bmya _; have nm : ¬ Bm = bR := (by omega); have nm2 : ¬ bR = Bm := (by omega); refine hK.out _ _ hSE (fun _ => ?_); clear hK K hSw Bmy0 Bmy1 Bmyf Bmya y0 y1; generalize ((wmm.setCell ⟨Bm, 0, none⟩ (.int .i64 (X2))).setCell ⟨Bm, 1, none⟩ (.int .i64 (X4))) = W7 at *)
        refine wpAnyH_done (by kernel_rfl) ?_ _
    rotate_left 3
    focus
      go_simp
      (have hSa : Below W5.heap.size W5 (wd.alloc (.cells #[.int .i64 0, .int .i64 0] 31)) := hSw.alloc hSw.size _; have Bmy0 : (wd.alloc (.cells #[.int .i64 0, .int .i64 0] 31)).cell? ⟨wd.heap.size, 0, none⟩ = some (.int .i64 0) := (by simp); have Bmy1 : (wd.alloc (.cells #[.int .i64 0, .int .i64 0] 31)).cell? ⟨wd.heap.size, 1, none⟩ = some (.int .i64 0) := (by simp); have Bmyf : ∀ o, (wd.alloc (.cells #[.int .i64 0, .int .i64 0] 31)).frozen? ⟨wd.heap.size, o, none⟩ = false := (fun o => by simp); have Bmya := hSw.size; replace hSw := hSa; clear hSa; refine hK.out _ _ hSw (fun _ => ?_); clear hK K; generalize wd.alloc (.cells #[.int .i64 0, .int .i64 0] 31) = wam at *; generalize wd.heap.size = Bm at *)
      refine wpAnyH_ready (rs := [3]) (by kernel_rfl) (by simp) (AllReadyH.cons rfl (fun K hK => ?_) (AllReadyH.nil))
      go_simp
      (refine Calls.mono (T3.out _) ?_; rintro e wpm ⟨rfl, hbX⟩; replace Bmy1 := (hbX.cell (p := ⟨Bm, 1, none⟩) (cell_lt Bmy0)).trans Bmy1; replace Bmyf := (fun o => (hbX.frozen (p := ⟨Bm, o, none⟩) (cell_lt Bmy0)).trans (Bmyf o)); replace Bmy0 := (hbX.cell (p := ⟨Bm, 0, none⟩) (cell_lt Bmy0)).trans Bmy0; replace hSw := belowTo hSw hbX; refine hK.out _ _ hSw (fun _ => ?_); clear hK K hbX)
      refine wpAnyH_ready (rs := [7]) (by kernel_rfl) (by simp) (AllReadyH.cons rfl (fun K hK => ?_) (AllReadyH.nil))
      go_simp
      (refine Calls.mono (T4.out _) ?_; rintro e wqm ⟨rfl, hbX⟩; replace Bmy1 := (hbX.cell (p := ⟨Bm, 1, none⟩) (cell_lt Bmy0)).trans Bmy1; replace Bmyf := (fun o => (hbX.frozen (p := ⟨Bm, o, none⟩) (cell_lt Bmy0)).trans (Bmyf o)); replace Bmy0 := (hbX.cell (p := ⟨Bm, 0, none⟩) (cell_lt Bmy0)).trans Bmy0; replace hSw := belowTo hSw hbX; refine hK.out _ _ hSw (fun _ => ?_); clear hK K hbX)
      refine wpAnyH_ready (rs := [8]) (by kernel_rfl) (by simp) (AllReadyH.cons rfl (fun K hK => ?_) (AllReadyH.nil))
      go_simp
      (refine Calls.mono (M2.out _) ?_; rintro e wmm ⟨rfl, hbX⟩; replace Bmy1 := (hbX.cell (p := ⟨Bm, 1, none⟩) (cell_lt Bmy0)).trans Bmy1; replace Bmyf := (fun o => (hbX.frozen (p := ⟨Bm, o, none⟩) (cell_lt Bmy0)).trans (Bmyf o)); replace Bmy0 := (hbX.cell (p := ⟨Bm, 0, none⟩) (cell_lt Bmy0)).trans Bmy0; replace hSw := belowTo hSw hbX; refine hK.out _ _ hSw (fun _ => ?_); clear hK K hbX)
      refine wpAnyH_ready (rs := [10]) (by kernel_rfl) (by simp) (AllReadyH.cons rfl (fun K hK => ?_) (AllReadyH.nil))
      go_simp
      (have y0 := Bmyf 0; have y1 := Bmyf 1; have m0 : ((wmm.setCell ⟨Bm, 0, none⟩ (.int .i64 (X2))).setCell ⟨Bm, 1, none⟩ (.int .i64 (X4))).cell? ⟨Bm, 0, none⟩ = some (.int .i64 (X2)) := (by first | (go_cell; done) | (go_simp; done) | (simp; done)); have m1 : ((wmm.setCell ⟨Bm, 0, none⟩ (.int .i64 (X2))).setCell ⟨Bm, 1, none⟩ (.int .i64 (X4))).cell? ⟨Bm, 1, none⟩ = some (.int .i64 (X4)) := (by first | (go_cell; done) | (go_simp; done) | (simp; done)); have hSE : Below W5.heap.size W5 ((wmm.setCell ⟨Bm, 0, none⟩ (.int .i64 (X2))).setCell ⟨Bm, 1, none⟩ (.int .i64 (X4))) := (hSw.setCell (p := ⟨Bm, 0, none⟩) Bmya _).setCell (p := ⟨Bm, 1, none⟩) Bmya _; have nm : ¬ Bm = bR := (by omega); have nm2 : ¬ bR = Bm := (by omega); refine hK.out _ _ hSE (fun _ => ?_); clear hK K hSw Bmy0 Bmy1 Bmyf Bmya y0 y1; generalize ((wmm.setCell ⟨Bm, 0, none⟩ (.int .i64 (X2))).setCell ⟨Bm, 1, none⟩ (.int .i64 (X4))) = W7 at *)
      refine wpAnyH_done (by kernel_rfl) ?_ _
    all_goals
      replace g1 := (hSE.cell (p := ⟨Bg, 1, none⟩) (cell_lt g0)).trans g1
      replace g0 := (hSE.cell (p := ⟨Bg, 0, none⟩) (cell_lt g0)).trans g0
      replace z1 := (hSE.cell (p := ⟨bR, 1, none⟩) nR).trans z1
      replace z2 := (hSE.cell (p := ⟨bR, 2, none⟩) nR).trans z2
      replace z3 := (hSE.cell (p := ⟨bR, 3, none⟩) nR).trans z3
      replace z0 := (hSE.cell (p := ⟨bR, 0, none⟩) nR).trans z0
      replace zf := fun o => (hSE.frozen (p := ⟨bR, o, none⟩) nR).trans (zf o)
      replace hB := belowTo hB hSE
      clear hSE T3 T4 M2 a0 a1 b0 b1 c0 c1 d0 d1 nR
      have D1 : ¬ D = 0 := h0
      have D2 : (D == 0) = false := by simpa using h0
      have QX1 : IntKind.i64.wrap (X1.tdiv D) = X1.tdiv D := by rw [IntKind.wrap_i64]; have := tdiv_small (d := D) Z1.out; omega
      have QX2 : IntKind.i64.wrap (X2.tdiv D) = X2.tdiv D := by rw [IntKind.wrap_i64]; have := tdiv_small (d := D) Z2.out; omega
      have QX3 : IntKind.i64.wrap (X3.tdiv D) = X3.tdiv D := by rw [IntKind.wrap_i64]; have := tdiv_small (d := D) Z3.out; omega
      have QX4 : IntKind.i64.wrap (X4.tdiv D) = X4.tdiv D := by rw [IntKind.wrap_i64]; have := tdiv_small (d := D) Z4.out; omega
      clear Z1 Z2 Z3 Z4 h0
      have z0f := zf 0
      have z1f := zf 1
      have z2f := zf 2
      have z3f := zf 3
      clear zf
      go_wp2
      go_region_held3 (fun w' => w'.cell? ⟨Bg, 0, none⟩ = some (.int .i64 (X1)) ∧ w'.cell? ⟨Bg, 1, none⟩ = some (.int .i64 (X3)) ∧ w'.cell? ⟨Bm, 0, none⟩ = some (.int .i64 (X2)) ∧ w'.cell? ⟨Bm, 1, none⟩ = some (.int .i64 (X4)) ∧ Below (w.heap.size) W7 w') ((go_split_ands; refine ⟨by (first | (with_reducible assumption) | (go_keep; done) | (go_cell; done) | (go_simp; done) | (simp [*]; done)), by (first | (with_reducible assumption) | (go_keep; done) | (go_cell; done) | (go_simp; done) | (simp [*]; done)), by (first | (with_reducible assumption) | (go_keep; done) | (go_cell; done) | (go_simp; done) | (simp [*]; done)), by (first | (with_reducible assumption) | (go_keep; done) | (go_cell; done) | (go_simp; done) | (simp [*]; done)), by first | (with_reducible assumption) | (go_grown; done)⟩)) (fail)
      all_goals (go_wp2; refine bodyPost_ret (by simp [results, Tryd.results98, go_sem, *]; try rfl) rfl ?_; exact ⟨rfl, by go_grown⟩)
-- behind matBetween
end Go.Proofs.YtgaeibibeekclaaDoor

/- PolygonSame, the program: the matrix moves all. -/
namespace Go.Proofs.YtgaeibibeekclaaDoor
open Go.RowKit

def way2 (u : V2) : Prop := (-200 ≤ u.1 ∧ u.1 ≤ 200) ∧ -200 ≤ u.2 ∧ u.2 ≤ 200
set_option maxRecDepth 100000 in
set_option maxHeartbeats 8000000 in
theorem moveAll1_any (m : M4) (B : Nat) (x y z t : Int) (w : World) (hm : m.ok = true) (h1 : szB x = true) (h2 : szB y = true)
    (c0 : w.cell? ⟨B, 0, none⟩ = some (.int .i64 m.a)) (c1 : w.cell? ⟨B, 1, none⟩ = some (.int .i64 m.b)) (c2 : w.cell? ⟨B, 2, none⟩ = some (.int .i64 m.c)) (c3 : w.cell? ⟨B, 3, none⟩ = some (.int .i64 m.d)) :
    Calls Tryd.prog 101 #[.agg #[.int .i64 (x), .int .i64 (y)], .agg #[.int .i64 (z), .int .i64 (t)], .pointer (some ⟨B, 0, none⟩)] w fun e w' => e = .returned (.bool (m.mv (x, y) == (z, t))) ∧ Below w.heap.size w w' := by
  have HM := Lib.hid (fun w' => by
    obtain ⟨⟨k1, k2, k3, k4⟩, _⟩ := mat_in hm
    exact move_any m.a m.b m.c m.d x y w' k1 k2 k3 k4 h1 h2)
  have e1 : m.mv (x, y) = (moveX m.a m.b x y, moveX m.c m.d x y) := rfl
  rw [e1]
  generalize moveX m.a m.b x y = X at *
  generalize moveX m.c m.d x y = Y at *
  generalize m.a = a at *
  generalize m.b = b at *
  generalize m.c = c at *
  generalize m.d = d at *
  have hB := cell_lt c0
  have n1 : ¬ B = w.heap.size := by omega
  have n2 : ¬ B = w.heap.size + 1 := by omega
  have qe : ∀ w', (binOp .eql 31 (.agg #[.int .i64 (X), .int .i64 (Y)]) (.agg #[.int .i64 (z), .int .i64 (t)])).run Tryd.prog w' = .ok (.bool ((X, Y) == (z, t))) w' := fun w' => by
    rw [run_eqV]
    congr 2
  generalize ((X, Y) == (z, t)) = E at *
  clear hm h1 h2 e1
  go_enter Tryd.func101, Tryd.ntmps101
  go_wp2_with fail
  go_region_held3 (fun w' => w'.cell? ⟨B, 0, none⟩ = some (.int .i64 (a)) ∧ w'.cell? ⟨B, 1, none⟩ = some (.int .i64 (b)) ∧ w'.cell? ⟨B, 2, none⟩ = some (.int .i64 (c)) ∧ w'.cell? ⟨B, 3, none⟩ = some (.int .i64 (d)) ∧ w'.cell? ⟨w.heap.size, 0, none⟩ = some (.int .i64 (x)) ∧ w'.cell? ⟨w.heap.size, 1, none⟩ = some (.int .i64 (y)) ∧ w'.cell? ⟨w.heap.size + 1, 0, none⟩ = some (.int .i64 (z)) ∧ w'.cell? ⟨w.heap.size + 1, 1, none⟩ = some (.int .i64 (t)) ∧ Below w.heap.size w w') ((go_split_ands; refine ⟨by (first | (with_reducible assumption) | (go_keep; done) | (go_cell; done) | (go_simp; done) | (simp [*]; done)), by (first | (with_reducible assumption) | (go_keep; done) | (go_cell; done) | (go_simp; done) | (simp [*]; done)), by (first | (with_reducible assumption) | (go_keep; done) | (go_cell; done) | (go_simp; done) | (simp [*]; done)), by (first | (with_reducible assumption) | (go_keep; done) | (go_cell; done) | (go_simp; done) | (simp [*]; done)), by (first | (with_reducible assumption) | (go_keep; done) | (go_cell; done) | (go_simp; done) | (simp [*]; done)), by (first | (with_reducible assumption) | (go_keep; done) | (go_cell; done) | (go_simp; done) | (simp [*]; done)), by (first | (with_reducible assumption) | (go_keep; done) | (go_cell; done) | (go_simp; done) | (simp [*]; done)), by (first | (with_reducible assumption) | (go_keep; done) | (go_cell; done) | (go_simp; done) | (simp [*]; done)), by first | (with_reducible assumption) | (go_grown; done)⟩)) (first | (go_at_call 60; go_call (HM.out _) as e w1 ⟨rfl, hb0⟩; go_split_ands; have q0 : w1.cell? ⟨B, 0, none⟩ = some (.int .i64 (a)) := (hb0.cell (p := ⟨B, 0, none⟩) (by first | (with_reducible assumption) | (go_size; done) | (simp; omega))).trans (by first | (with_reducible assumption) | (go_keep; done) | (go_cell; done) | (go_simp; done) | (simp [*]; done)); have q1 : w1.cell? ⟨B, 1, none⟩ = some (.int .i64 (b)) := (hb0.cell (p := ⟨B, 1, none⟩) (by first | (with_reducible assumption) | (go_size; done) | (simp; omega))).trans (by first | (with_reducible assumption) | (go_keep; done) | (go_cell; done) | (go_simp; done) | (simp [*]; done)); have q2 : w1.cell? ⟨B, 2, none⟩ = some (.int .i64 (c)) := (hb0.cell (p := ⟨B, 2, none⟩) (by first | (with_reducible assumption) | (go_size; done) | (simp; omega))).trans (by first | (with_reducible assumption) | (go_keep; done) | (go_cell; done) | (go_simp; done) | (simp [*]; done)); have q3 : w1.cell? ⟨B, 3, none⟩ = some (.int .i64 (d)) := (hb0.cell (p := ⟨B, 3, none⟩) (by first | (with_reducible assumption) | (go_size; done) | (simp; omega))).trans (by first | (with_reducible assumption) | (go_keep; done) | (go_cell; done) | (go_simp; done) | (simp [*]; done)); have q4 : w1.cell? ⟨w.heap.size, 0, none⟩ = some (.int .i64 (x)) := (hb0.cell (p := ⟨w.heap.size, 0, none⟩) (by first | (with_reducible assumption) | (go_size; done) | (simp; omega))).trans (by first | (with_reducible assumption) | (go_keep; done) | (go_cell; done) | (go_simp; done) | (simp [*]; done)); have q5 : w1.cell? ⟨w.heap.size, 1, none⟩ = some (.int .i64 (y)) := (hb0.cell (p := ⟨w.heap.size, 1, none⟩) (by first | (with_reducible assumption) | (go_size; done) | (simp; omega))).trans (by first | (with_reducible assumption) | (go_keep; done) | (go_cell; done) | (go_simp; done) | (simp [*]; done)); have q6 : w1.cell? ⟨w.heap.size + 1, 0, none⟩ = some (.int .i64 (z)) := (hb0.cell (p := ⟨w.heap.size + 1, 0, none⟩) (by first | (with_reducible assumption) | (go_size; done) | (simp; omega))).trans (by first | (with_reducible assumption) | (go_keep; done) | (go_cell; done) | (go_simp; done) | (simp [*]; done)); have q7 : w1.cell? ⟨w.heap.size + 1, 1, none⟩ = some (.int .i64 (t)) := (hb0.cell (p := ⟨w.heap.size + 1, 1, none⟩) (by first | (with_reducible assumption) | (go_size; done) | (simp; omega))).trans (by first | (with_reducible assumption) | (go_keep; done) | (go_cell; done) | (go_simp; done) | (simp [*]; done)); have hs0 : B < w1.heap.size := Nat.lt_of_lt_of_le (by first | (with_reducible assumption) | (go_size; done) | (simp; omega)) hb0.size; have hs1 : w.heap.size < w1.heap.size := Nat.lt_of_lt_of_le (by first | (with_reducible assumption) | (go_size; done) | (simp; omega)) hb0.size; have hs2 : w.heap.size + 1 < w1.heap.size := Nat.lt_of_lt_of_le (by first | (with_reducible assumption) | (go_size; done) | (simp; omega)) hb0.size; have hT : Below w.heap.size w w1 := belowTo (by first | (with_reducible assumption) | (go_grown; done)) hb0; have hTs := hT.size; clear hb0))
  all_goals go_wp2
  all_goals go_returns
  all_goals exact ⟨by first | rfl | simp [*], by go_grown⟩
/-- slices.EqualFunc with the closure -/
def EqB (m : M4) (f g : List V2) : Bool := f.length == g.length && allMv m (cyc f) (cyc g) f.length
theorem allMv_stop {m : M4} {f g : Nat → V2} {n k : Nat} (hk : k < n) (h : (m.mv (f k) == g k) = false) : allMv m f g n = false := by
  unfold allMv
  rw [List.all_eq_false]
  exact ⟨k, List.mem_range.2 hk, by rw [h]; decide⟩
theorem allMv_all {m : M4} {f g : Nat → V2} {n : Nat} (h : ∀ k, k < n → (m.mv (f k) == g k) = true) : allMv m f g n = true := by
  unfold allMv
  rw [List.all_eq_true]
  intro k hk
  exact h k (List.mem_range.1 hk)
set_option maxRecDepth 100000 in
set_option maxHeartbeats 8000000 in
theorem equalFunc_any (m : M4) (B : Nat) (v u : Value) (f g : List V2) (w : World) (hm : m.ok = true) (hf : ReadsVecs w v f) (hg : ReadsVecs w u g) (hl0 : 0 < f.length) (hl1 : 0 < g.length) (hl : f.length ≤ 1000) (hs : ∀ i, szB (cyc f i).1 = true ∧ szB (cyc f i).2 = true)
    (c0 : w.cell? ⟨B, 0, none⟩ = some (.int .i64 m.a)) (c1 : w.cell? ⟨B, 1, none⟩ = some (.int .i64 m.b)) (c2 : w.cell? ⟨B, 2, none⟩ = some (.int .i64 m.c)) (c3 : w.cell? ⟨B, 3, none⟩ = some (.int .i64 m.d)) :
    Calls Tryd.prog 100 #[v, u, .func (.func 101) #[] #[.pointer (some ⟨B, 0, none⟩)]] w fun e w' => e = .returned (.bool (EqB m f g)) ∧ Below w.heap.size w w' := by
  have hBl := cell_lt c0
  have HM := Lib.hid (fun x y z t w' (hb : Below w.heap.size w w') (h1 : szB x = true) (h2 : szB y = true) => moveAll1_any m B x y z t w' hm h1 h2
    ((hb.cell (p := ⟨B, 0, none⟩) hBl).trans c0) ((hb.cell (p := ⟨B, 1, none⟩) hBl).trans c1) ((hb.cell (p := ⟨B, 2, none⟩) hBl).trans c2) ((hb.cell (p := ⟨B, 3, none⟩) hBl).trans c3))
  obtain ⟨bf, of, cf, rfl, _, _, hbf, hfs⟩ := hf.open hl0
  obtain ⟨bg, og, cg, rfl, _, _, hbg, hgs⟩ := hg.open hl1
  have HF := Lib.hid hfs
  have HG := Lib.hid hgs
  have HS := Lib.hid hs
  have HN : Hid (∀ k, k < f.length → (m.mv (cyc f k) == cyc g k) = false → EqB m f g = false) := fun k hk h => by
    unfold EqB
    rw [allMv_stop hk h, Bool.and_false]
  have HY : Hid (f.length = g.length → (∀ k, k < f.length → (m.mv (cyc f k) == cyc g k) = true) → EqB m f g = true) := fun he h => by
    unfold EqB
    rw [allMv_all h]
    simp [he]
  clear hf hg hfs hgs hs c0 c1 c2 c3 hm
  by_cases hlen : f.length = g.length
  · have HYl := Lib.hid (HY.out hlen)
    have HL := Lib.hid hlen
    clear HY
    rw [← hlen] at HG hl1 ⊢
    have i0 : ((f.length : Nat) : Int) = (f.length : Int) := rfl
    clear hlen
    go_enter Tryd.func100, Tryd.ntmps100
    go_wp2
    go_loopw [17] (fun s17 wr => ∃ k : Nat, k ≤ f.length ∧ s17 = .int .i64 k ∧ Hid (∀ j, j < k → (m.mv (cyc f j) == cyc g j) = true) ∧ Below w.heap.size w wr) (fun s17 _ => f.length - (intOf s17).toNat)
    case atStart => exact ⟨0, Nat.zero_le _, rfl, Lib.hid (fun j hj => absurd hj (Nat.not_lt_zero j)), Below.refl _ _⟩
    case round =>
      obtain ⟨k, hk, rfl, HE, hB⟩ := hrel
      have i1 : (0 : Int) ≤ (k : Int) := by omega
      by_cases hlt : k < f.length
      · have i2 : (k : Int) < (f.length : Int) := by omega
        obtain ⟨d0, d1⟩ := HF.out wr hB k hlt
        obtain ⟨e0, e1⟩ := HG.out wr hB k hlt
        have HNk := Lib.hid (HN.out k hlt)
        have HE2 : Hid ((m.mv (cyc f k) == cyc g k) = true → ∀ j, j < k + 1 → (m.mv (cyc f j) == cyc g j) = true) := fun h j hj => by
          by_cases e : j = k
          · subst e; exact h
          · exact HE.out j (by omega)
        have sk := HS.out k
        have HMk := Lib.hid (fun w' hb => HM.out (cyc f k).1 (cyc f k).2 (cyc g k).1 (cyc g k).2 w' hb sk.1 sk.2)
        have q0 : IntKind.i64.wrap ((k : Int) + 1) = ((k + 1 : Nat) : Int) := by rw [IntKind.wrap_i64]; omega
        have hsz := hB.size
        generalize hb : (m.mv (cyc f k) == cyc g k) = b at HNk HE2 HMk
        try rw [show ((m.mv ((cyc f k).1, (cyc f k).2)) == ((cyc g k).1, (cyc g k).2)) = b from hb] at HMk
        clear hb
        generalize cyc f k = V at *
        generalize cyc g k = U at *
        obtain ⟨x, y⟩ := V
        obtain ⟨z, t⟩ := U
        dsimp only at d0 d1 e0 e1 HMk
        clear HN HYl HL HF HG HS HM HE sk
        go_upto_region 6 with fail
        have hA2 : Below wr.heap.size wr (wr.alloc (.cells #[.int .i64 x, .int .i64 y] 31)) := by go_grown
        have v0 : (wr.alloc (.cells #[.int .i64 x, .int .i64 y] 31)).cell? ⟨wr.heap.size, 0, none⟩ = some (.int .i64 x) := by simp
        have v1 : (wr.alloc (.cells #[.int .i64 x, .int .i64 y] 31)).cell? ⟨wr.heap.size, 1, none⟩ = some (.int .i64 y) := by simp
        replace e1 := (hA2.cell (p := ⟨bg, og + k * 2 + 1, none⟩) (cell_lt e0)).trans e1
        replace e0 := (hA2.cell (p := ⟨bg, og + k * 2, none⟩) (cell_lt e0)).trans e0
        replace hB := hB.trans (hA2.mono hsz)
        obtain ⟨B3, hB3⟩ : ∃ B3, B3 = wr.heap.size := ⟨_, rfl⟩
        rw [← hB3] at v0 v1 ⊢
        generalize (wr.alloc (.cells #[.int .i64 x, .int .i64 y] 31)) = W3 at *
        clear hA2 hB3 d0 d1 hsz
        have hl3 := cell_lt v0
        have hsz := hB.size
        go_upto_region 7 with fail
        have hA2 : Below W3.heap.size W3 (W3.alloc (.cells #[.int .i64 z, .int .i64 t] 31)) := by go_grown
        replace v1 := (hA2.cell (p := ⟨B3, 1, none⟩) hl3).trans v1
        replace v0 := (hA2.cell (p := ⟨B3, 0, none⟩) hl3).trans v0
        replace hB := hB.trans (hA2.mono hsz)
        have u0 : (W3.alloc (.cells #[.int .i64 z, .int .i64 t] 31)).cell? ⟨W3.heap.size, 0, none⟩ = some (.int .i64 z) := by simp
        have u1 : (W3.alloc (.cells #[.int .i64 z, .int .i64 t] 31)).cell? ⟨W3.heap.size, 1, none⟩ = some (.int .i64 t) := by simp
        generalize (W3.alloc (.cells #[.int .i64 z, .int .i64 t] 31)) = W4 at *
        generalize W3.heap.size = B4 at *
        clear hA2 e0 e1 hl3
        go_wp2_with fail
        refine Calls.mono (HMk.out _ (by go_grown)) ?_
        rintro e w2 ⟨rfl, hb2⟩
        have hB2 : Below w.heap.size w w2 := belowTo (by go_grown) hb2
        clear hb2 HMk v0 v1 u0 u1
        cases b
        · have HF0 := Lib.hid (HNk.out rfl)
          clear HNk HE2
          go_wp2
          go_returns
          exact ⟨by rw [HF0.out]; rfl, hB2⟩
        · have HF0 := Lib.hid (HE2.out rfl)
          clear HNk HE2
          go_wp2
          go_roundw
          case rel => exact ⟨k + 1, by omega, by go_num, HF0, hB2⟩
          case measure => simp [intOf]; omega
      · obtain rfl : k = f.length := by omega
        have i2 : ¬ ((f.length : Nat) : Int) < (f.length : Int) := by omega
        have HT := Lib.hid (HYl.out HE.out)
        clear HN HYl HL HF HG HS HM HE
        go_wp2
        go_returns
        exact ⟨by rw [HT.out]; rfl, hB⟩
  · have HF0 : EqB m f g = false := by unfold EqB; simp [hlen]
    rw [HF0]
    have i0 : ¬ (f.length : Int) = (g.length : Int) := by omega
    clear HN HY HF0 HM HF HG HS
    go_enter Tryd.func100, Tryd.ntmps100
    go_wp2
    go_returns
    exact ⟨rfl, by go_grown⟩
end Go.Proofs.YtgaeibibeekclaaDoor

/- PolygonSame, the program: moveAll. -/
namespace Go.Proofs.YtgaeibibeekclaaDoor
open Go.RowKit

def MvL (f g : List V2) : Bool := (mtw (cyc f 0) (cyc f 1) (cyc g 0) (cyc g 1)).ok && EqB (mtw (cyc f 0) (cyc f 1) (cyc g 0) (cyc g 1)) f g
theorem MvL_is (f g : List V2) : MvL f g = (f.length == g.length && mvB (cyc f) (cyc g) f.length) := by
  unfold MvL EqB mvB
  cases (mtw (cyc f 0) (cyc f 1) (cyc g 0) (cyc g 1)).ok <;> simp
set_option maxRecDepth 100000 in
set_option maxHeartbeats 16000000 in
theorem moveAll_any (v u : Value) (f g : List V2) (w : World) (hf : ReadsVecs w v f) (hg : ReadsVecs w u g) (hE : EtOk w) (hf2 : 2 ≤ f.length) (hg2 : 2 ≤ g.length) (hl : f.length ≤ 1000) (hwf : ∀ i, wy2 (cyc f i)) (hwg : ∀ i, wy2 (cyc g i)) (h0 : detV (cyc f 0) (cyc f 1) ≠ 0) :
    Calls Tryd.prog 84 #[v, u] w fun e w' => e = .returned (.bool (MvL f g)) ∧ Below w.heap.size w w' := by
  have HB := Lib.hid (fun w' => matBetween_any (cyc f 0) (cyc f 1) (cyc g 0) (cyc g 1) w' (hwf 0) (hwf 1) (hwg 0) (hwg 1) h0)
  have HS := Lib.hid (fun i => (show szB (cyc f i).1 = true ∧ szB (cyc f i).2 = true from by have := hwf i; unfold wy2 at this; exact ⟨szB_mk (by omega) (by omega), szB_mk (by omega) (by omega)⟩))
  have HQ := Lib.hid (fun m B w' (hb : Below w.heap.size w w') (hm : M4.ok m = true) c0 c1 c2 c3 => equalFunc_any m B v u f g w' hm (hf.below hb) (hg.below hb) (by omega) (by omega) hl HS.out c0 c1 c2 c3)
  have HIn := Lib.hid (fun (m : M4) w' (h : m.ok = true) => matCheck_in m.a m.b m.c m.d w' h)
  have HOut := Lib.hid (fun (m : M4) w' (h : m.ok = false) => matCheck_out m.a m.b m.c m.d w' h)
  have HR : Hid (MvL f g = ((mtw (cyc f 0) (cyc f 1) (cyc g 0) (cyc g 1)).ok && EqB (mtw (cyc f 0) (cyc f 1) (cyc g 0) (cyc g 1)) f g)) := rfl
  obtain ⟨bf, of, cf, rfl, _, _, hbf, hfs⟩ := hf.open (by omega)
  obtain ⟨bg, og, cg, rfl, _, _, hbg, hgs⟩ := hg.open (by omega)
  obtain ⟨c0, c1⟩ := hfs w (Below.refl _ _) 0 (by omega)
  obtain ⟨c2, c3⟩ := hfs w (Below.refl _ _) 1 (by omega)
  obtain ⟨d0, d1⟩ := hgs w (Below.refl _ _) 0 (by omega)
  obtain ⟨d2, d3⟩ := hgs w (Below.refl _ _) 1 (by omega)
  have j1 : 0 < f.length := by omega
  have j2 : 1 < f.length := by omega
  have j3 : 0 < g.length := by omega
  have j4 : 1 < g.length := by omega
  have i1 : (0 : Int) < (f.length : Int) := by omega
  have i2 : (1 : Int) < (f.length : Int) := by omega
  have i3 : (0 : Int) < (g.length : Int) := by omega
  have i4 : (1 : Int) < (g.length : Int) := by omega
  generalize mtw (cyc f 0) (cyc f 1) (cyc g 0) (cyc g 1) = m at *
  have HQm := Lib.hid (HQ.out m)
  have HInm := Lib.hid (HIn.out m)
  have HOutm := Lib.hid (HOut.out m)
  generalize EqB m f g = E at *
  generalize MvL f g = R at *
  generalize cyc f 0 = F0 at *
  generalize cyc f 1 = F1 at *
  generalize cyc g 0 = G0 at *
  generalize cyc g 1 = G1 at *
  obtain ⟨x0, y0⟩ := F0
  obtain ⟨x1, y1⟩ := F1
  obtain ⟨z0, t0⟩ := G0
  obtain ⟨z1, t1⟩ := G1
  dsimp only at c0 c1 c2 c3 d0 d1 d2 d3 HB
  clear HQ HIn HOut HS hf hg hwf hwg h0 hfs hgs
  simp only [Nat.zero_mul, Nat.one_mul, Nat.add_zero] at c0 c1 c2 c3 d0 d1 d2 d3
  generalize hk : m.ok = ok at *
  have K1 := Lib.hid hk
  generalize f.length = n at *
  generalize g.length = n' at *
  obtain ⟨a, b, c, d⟩ := m
  dsimp only at HB HQm HInm HOutm
  clear hk
  go_enter Tryd.func84, Tryd.ntmps84
  go_wp2_with fail
  refine wp_region_any (by kernel_rfl) ?_
  try (change wpAny _ _ _ _ _ _ _ (World.drew _))
  refine wpAny_of_held (S := fun w' => Below (w.heap.size) w w') _ _ _ _ ?_
  have hSw : Below (w.heap.size) w (World.drew w) := by go_grown
  generalize World.drew w = wd at hSw ⊢
  refine wpAnyH_take (i := 0) (v := ?_) rfl (by kernel_rfl) (by kernel_rfl) (by kernel_rfl) (fun _ _ _ h => h) (Or.inl ⟨by rfl, ?_⟩) hSw ?_
  rotate_left
  focus (intro w0 hS0; clear hS0; go_simp; try with_reducible rfl)
  refine wpAnyH_take (i := 1) (v := ?_) rfl (by kernel_rfl) (by kernel_rfl) (by kernel_rfl) (fun _ _ _ h => h) (Or.inl ⟨by rfl, ?_⟩) hSw ?_
  rotate_left
  focus (intro w0 hS0; clear hS0; go_simp; try with_reducible rfl)
  refine wpAnyH_take (i := 2) (v := ?_) rfl (by kernel_rfl) (by kernel_rfl) (by kernel_rfl) (fun _ _ _ h => h) (Or.inl ⟨by rfl, ?_⟩) hSw ?_
  rotate_left
  focus (intro w0 hS0; have k0 := (hS0.cell (p := ⟨bf, of, none⟩) hbf).trans c0; have k1 := (hS0.cell (p := ⟨bf, of + 1, none⟩) hbf).trans c1; have k2 := (hS0.cell (p := ⟨bf, of + 2, none⟩) hbf).trans c2; have k3 := (hS0.cell (p := ⟨bf, of + 2 + 1, none⟩) hbf).trans c3; have k4 := (hS0.cell (p := ⟨bg, og, none⟩) hbg).trans d0; have k5 := (hS0.cell (p := ⟨bg, og + 1, none⟩) hbg).trans d1; have k6 := (hS0.cell (p := ⟨bg, og + 2, none⟩) hbg).trans d2; have k7 := (hS0.cell (p := ⟨bg, og + 2 + 1, none⟩) hbg).trans d3; clear hS0; go_simp; try with_reducible rfl)
  refine wpAnyH_take (i := 3) (v := ?_) rfl (by kernel_rfl) (by kernel_rfl) (by kernel_rfl) (fun _ _ _ h => h) (Or.inl ⟨by rfl, ?_⟩) hSw ?_
  rotate_left
  focus (intro w0 hS0; clear hS0; go_simp; try with_reducible rfl)
  refine wpAnyH_take (i := 4) (v := ?_) rfl (by kernel_rfl) (by kernel_rfl) (by kernel_rfl) (fun _ _ _ h => h) (Or.inl ⟨by rfl, ?_⟩) hSw ?_
  rotate_left
  focus (intro w0 hS0; clear hS0; go_simp; try with_reducible rfl)
  refine wpAnyH_take (i := 5) (v := ?_) rfl (by kernel_rfl) (by kernel_rfl) (by kernel_rfl) (fun _ _ _ h => h) (Or.inl ⟨by rfl, ?_⟩) hSw ?_
  rotate_left
  focus (intro w0 hS0; have k0 := (hS0.cell (p := ⟨bf, of, none⟩) hbf).trans c0; have k1 := (hS0.cell (p := ⟨bf, of + 1, none⟩) hbf).trans c1; have k2 := (hS0.cell (p := ⟨bf, of + 2, none⟩) hbf).trans c2; have k3 := (hS0.cell (p := ⟨bf, of + 2 + 1, none⟩) hbf).trans c3; have k4 := (hS0.cell (p := ⟨bg, og, none⟩) hbg).trans d0; have k5 := (hS0.cell (p := ⟨bg, og + 1, none⟩) hbg).trans d1; have k6 := (hS0.cell (p := ⟨bg, og + 2, none⟩) hbg).trans d2; have k7 := (hS0.cell (p := ⟨bg, og + 2 + 1, none⟩) hbg).trans d3; clear hS0; go_simp; try with_reducible rfl)
  refine wpAnyH_take (i := 6) (v := ?_) rfl (by kernel_rfl) (by kernel_rfl) (by kernel_rfl) (fun _ _ _ h => h) (Or.inl ⟨by rfl, ?_⟩) hSw ?_
  rotate_left
  focus (intro w0 hS0; clear hS0; go_simp; try with_reducible rfl)
  refine wpAnyH_take (i := 7) (v := ?_) rfl (by kernel_rfl) (by kernel_rfl) (by kernel_rfl) (fun _ _ _ h => h) (Or.inl ⟨by rfl, ?_⟩) hSw ?_
  rotate_left
  focus (intro w0 hS0; clear hS0; go_simp; try with_reducible rfl)
  refine wpAnyH_take (i := 8) (v := ?_) rfl (by kernel_rfl) (by kernel_rfl) (by kernel_rfl) (fun _ _ _ h => h) (Or.inl ⟨by rfl, ?_⟩) hSw ?_
  rotate_left
  focus (intro w0 hS0; have k0 := (hS0.cell (p := ⟨bf, of, none⟩) hbf).trans c0; have k1 := (hS0.cell (p := ⟨bf, of + 1, none⟩) hbf).trans c1; have k2 := (hS0.cell (p := ⟨bf, of + 2, none⟩) hbf).trans c2; have k3 := (hS0.cell (p := ⟨bf, of + 2 + 1, none⟩) hbf).trans c3; have k4 := (hS0.cell (p := ⟨bg, og, none⟩) hbg).trans d0; have k5 := (hS0.cell (p := ⟨bg, og + 1, none⟩) hbg).trans d1; have k6 := (hS0.cell (p := ⟨bg, og + 2, none⟩) hbg).trans d2; have k7 := (hS0.cell (p := ⟨bg, og + 2 + 1, none⟩) hbg).trans d3; clear hS0; go_simp; try with_reducible rfl)
  refine wpAnyH_take (i := 9) (v := ?_) rfl (by kernel_rfl) (by kernel_rfl) (by kernel_rfl) (fun _ _ _ h => h) (Or.inl ⟨by rfl, ?_⟩) hSw ?_
  rotate_left
  focus (intro w0 hS0; clear hS0; go_simp; try with_reducible rfl)
  refine wpAnyH_take (i := 10) (v := ?_) rfl (by kernel_rfl) (by kernel_rfl) (by kernel_rfl) (fun _ _ _ h => h) (Or.inl ⟨by rfl, ?_⟩) hSw ?_
  rotate_left
  focus (intro w0 hS0; clear hS0; go_simp; try with_reducible rfl)
  refine wpAnyH_take (i := 11) (v := ?_) rfl (by kernel_rfl) (by kernel_rfl) (by kernel_rfl) (fun _ _ _ h => h) (Or.inl ⟨by rfl, ?_⟩) hSw ?_
  rotate_left
  focus (intro w0 hS0; have k0 := (hS0.cell (p := ⟨bf, of, none⟩) hbf).trans c0; have k1 := (hS0.cell (p := ⟨bf, of + 1, none⟩) hbf).trans c1; have k2 := (hS0.cell (p := ⟨bf, of + 2, none⟩) hbf).trans c2; have k3 := (hS0.cell (p := ⟨bf, of + 2 + 1, none⟩) hbf).trans c3; have k4 := (hS0.cell (p := ⟨bg, og, none⟩) hbg).trans d0; have k5 := (hS0.cell (p := ⟨bg, og + 1, none⟩) hbg).trans d1; have k6 := (hS0.cell (p := ⟨bg, og + 2, none⟩) hbg).trans d2; have k7 := (hS0.cell (p := ⟨bg, og + 2 + 1, none⟩) hbg).trans d3; clear hS0; go_simp; try with_reducible rfl)
  refine wpAnyH_ready (rs := [12, 13]) (by kernel_rfl) (by simp) (AllReadyH.cons rfl (fun K hK => ?_) (AllReadyH.cons rfl (fun K hK => ?_) (AllReadyH.nil)))
  focus
    go_simp
    (refine Calls.mono (HB.out _) ?_; rintro e w4 ⟨rfl, hbX⟩;  replace hSw := belowTo hSw hbX; refine hK.out _ _ hSw (fun _ => ?_); clear hK K hbX)
    refine wpAnyH_ready (rs := [13]) (by kernel_rfl) (by simp) (AllReadyH.cons rfl (fun K hK => ?_) (AllReadyH.nil))
    go_simp
    (have hSa : Below w.heap.size w (w4.alloc (.cells #[.int .i64 0, .int .i64 0, .int .i64 0, .int .i64 0] 77)) := hSw.alloc hSw.size _; have y0 : (w4.alloc (.cells #[.int .i64 0, .int .i64 0, .int .i64 0, .int .i64 0] 77)).cell? ⟨w4.heap.size, 0, none⟩ = some (.int .i64 0) := (by simp); have y1 : (w4.alloc (.cells #[.int .i64 0, .int .i64 0, .int .i64 0, .int .i64 0] 77)).cell? ⟨w4.heap.size, 1, none⟩ = some (.int .i64 0) := (by simp); have y2 : (w4.alloc (.cells #[.int .i64 0, .int .i64 0, .int .i64 0, .int .i64 0] 77)).cell? ⟨w4.heap.size, 2, none⟩ = some (.int .i64 0) := (by simp); have y3 : (w4.alloc (.cells #[.int .i64 0, .int .i64 0, .int .i64 0, .int .i64 0] 77)).cell? ⟨w4.heap.size, 3, none⟩ = some (.int .i64 0) := (by simp); have yf : ∀ o, (w4.alloc (.cells #[.int .i64 0, .int .i64 0, .int .i64 0, .int .i64 0] 77)).frozen? ⟨w4.heap.size, o, none⟩ = false := (fun o => by simp); have ya := hSw.size; replace hSw := hSa; clear hSa; refine hK.out _ _ hSw (fun _ => ?_); clear hK K; generalize w4.alloc (.cells #[.int .i64 0, .int .i64 0, .int .i64 0, .int .i64 0] 77) = wa at *; generalize w4.heap.size = Ba at *)
    refine wpAnyH_ready (rs := [14]) (by kernel_rfl) (by simp) (AllReadyH.cons rfl (fun K hK => ?_) (AllReadyH.nil))
    go_simp
    (have z0 := yf 0; have z1 := yf 1; have z2 := yf 2; have z3 := yf 3; have g0 : (((((wa.setCell ⟨Ba, 0, none⟩ (.int .i64 a)).setCell ⟨Ba, 1, none⟩ (.int .i64 b)).setCell ⟨Ba, 2, none⟩ (.int .i64 c)).setCell ⟨Ba, 3, none⟩ (.int .i64 d))).cell? ⟨Ba, 0, none⟩ = some (.int .i64 a) := (by first | (go_cell; done) | (go_simp; done) | (simp; done)); have g1 : (((((wa.setCell ⟨Ba, 0, none⟩ (.int .i64 a)).setCell ⟨Ba, 1, none⟩ (.int .i64 b)).setCell ⟨Ba, 2, none⟩ (.int .i64 c)).setCell ⟨Ba, 3, none⟩ (.int .i64 d))).cell? ⟨Ba, 1, none⟩ = some (.int .i64 b) := (by first | (go_cell; done) | (go_simp; done) | (simp; done)); have g2 : (((((wa.setCell ⟨Ba, 0, none⟩ (.int .i64 a)).setCell ⟨Ba, 1, none⟩ (.int .i64 b)).setCell ⟨Ba, 2, none⟩ (.int .i64 c)).setCell ⟨Ba, 3, none⟩ (.int .i64 d))).cell? ⟨Ba, 2, none⟩ = some (.int .i64 c) := (by first | (go_cell; done) | (go_simp; done) | (simp; done)); have g3 : (((((wa.setCell ⟨Ba, 0, none⟩ (.int .i64 a)).setCell ⟨Ba, 1, none⟩ (.int .i64 b)).setCell ⟨Ba, 2, none⟩ (.int .i64 c)).setCell ⟨Ba, 3, none⟩ (.int .i64 d))).cell? ⟨Ba, 3, none⟩ = some (.int .i64 d) := (by first | (go_cell; done) | (go_simp; done) | (simp; done)); have hSE : Below w.heap.size w (((((wa.setCell ⟨Ba, 0, none⟩ (.int .i64 a)).setCell ⟨Ba, 1, none⟩ (.int .i64 b)).setCell ⟨Ba, 2, none⟩ (.int .i64 c)).setCell ⟨Ba, 3, none⟩ (.int .i64 d))) := (((hSw.setCell (p := ⟨Ba, 0, none⟩) ya _).setCell (p := ⟨Ba, 1, none⟩) ya _).setCell (p := ⟨Ba, 2, none⟩) ya _).setCell (p := ⟨Ba, 3, none⟩) ya _; refine hK.out _ _ hSE (fun _ => ?_); clear hK K hSw y0 y1 y2 y3 yf ya z0 z1 z2 z3; generalize (((((wa.setCell ⟨Ba, 0, none⟩ (.int .i64 a)).setCell ⟨Ba, 1, none⟩ (.int .i64 b)).setCell ⟨Ba, 2, none⟩ (.int .i64 c)).setCell ⟨Ba, 3, none⟩ (.int .i64 d))) = W5 at *)
    refine wpAnyH_done (by kernel_rfl) ?_ _
  rotate_left 1
  focus
    go_simp
    (have hSa : Below w.heap.size w (wd.alloc (.cells #[.int .i64 0, .int .i64 0, .int .i64 0, .int .i64 0] 77)) := hSw.alloc hSw.size _; have y0 : (wd.alloc (.cells #[.int .i64 0, .int .i64 0, .int .i64 0, .int .i64 0] 77)).cell? ⟨wd.heap.size, 0, none⟩ = some (.int .i64 0) := (by simp); have y1 : (wd.alloc (.cells #[.int .i64 0, .int .i64 0, .int .i64 0, .int .i64 0] 77)).cell? ⟨wd.heap.size, 1, none⟩ = some (.int .i64 0) := (by simp); have y2 : (wd.alloc (.cells #[.int .i64 0, .int .i64 0, .int .i64 0, .int .i64 0] 77)).cell? ⟨wd.heap.size, 2, none⟩ = some (.int .i64 0) := (by simp); have y3 : (wd.alloc (.cells #[.int .i64 0, .int .i64 0, .int .i64 0, .int .i64 0] 77)).cell? ⟨wd.heap.size, 3, none⟩ = some (.int .i64 0) := (by simp); have yf : ∀ o, (wd.alloc (.cells #[.int .i64 0, .int .i64 0, .int .i64 0, .int .i64 0] 77)).frozen? ⟨wd.heap.size, o, none⟩ = false := (fun o => by simp); have ya := hSw.size; replace hSw := hSa; clear hSa; refine hK.out _ _ hSw (fun _ => ?_); clear hK K; generalize wd.alloc (.cells #[.int .i64 0, .int .i64 0, .int .i64 0, .int .i64 0] 77) = wa at *; generalize wd.heap.size = Ba at *)
    refine wpAnyH_ready (rs := [12]) (by kernel_rfl) (by simp) (AllReadyH.cons rfl (fun K hK => ?_) (AllReadyH.nil))
    go_simp
    (refine Calls.mono (HB.out _) ?_; rintro e w4 ⟨rfl, hbX⟩; replace y1 := (hbX.cell (p := ⟨Ba, 1, none⟩) (cell_lt y0)).trans y1; replace y2 := (hbX.cell (p := ⟨Ba, 2, none⟩) (cell_lt y0)).trans y2; replace y3 := (hbX.cell (p := ⟨Ba, 3, none⟩) (cell_lt y0)).trans y3; replace yf := (fun o => (hbX.frozen (p := ⟨Ba, o, none⟩) (cell_lt y0)).trans (yf o)); replace y0 := (hbX.cell (p := ⟨Ba, 0, none⟩) (cell_lt y0)).trans y0; replace hSw := belowTo hSw hbX; refine hK.out _ _ hSw (fun _ => ?_); clear hK K hbX)
    refine wpAnyH_ready (rs := [14]) (by kernel_rfl) (by simp) (AllReadyH.cons rfl (fun K hK => ?_) (AllReadyH.nil))
    go_simp
    (have z0 := yf 0; have z1 := yf 1; have z2 := yf 2; have z3 := yf 3; have g0 : (((((w4.setCell ⟨Ba, 0, none⟩ (.int .i64 a)).setCell ⟨Ba, 1, none⟩ (.int .i64 b)).setCell ⟨Ba, 2, none⟩ (.int .i64 c)).setCell ⟨Ba, 3, none⟩ (.int .i64 d))).cell? ⟨Ba, 0, none⟩ = some (.int .i64 a) := (by first | (go_cell; done) | (go_simp; done) | (simp; done)); have g1 : (((((w4.setCell ⟨Ba, 0, none⟩ (.int .i64 a)).setCell ⟨Ba, 1, none⟩ (.int .i64 b)).setCell ⟨Ba, 2, none⟩ (.int .i64 c)).setCell ⟨Ba, 3, none⟩ (.int .i64 d))).cell? ⟨Ba, 1, none⟩ = some (.int .i64 b) := (by first | (go_cell; done) | (go_simp; done) | (simp; done)); have g2 : (((((w4.setCell ⟨Ba, 0, none⟩ (.int .i64 a)).setCell ⟨Ba, 1, none⟩ (.int .i64 b)).setCell ⟨Ba, 2, none⟩ (.int .i64 c)).setCell ⟨Ba, 3, none⟩ (.int .i64 d))).cell? ⟨Ba, 2, none⟩ = some (.int .i64 c) := (by first | (go_cell; done) | (go_simp; done) | (simp; done)); have g3 : (((((w4.setCell ⟨Ba, 0, none⟩ (.int .i64 a)).setCell ⟨Ba, 1, none⟩ (.int .i64 b)).setCell ⟨Ba, 2, none⟩ (.int .i64 c)).setCell ⟨Ba, 3, none⟩ (.int .i64 d))).cell? ⟨Ba, 3, none⟩ = some (.int .i64 d) := (by first | (go_cell; done) | (go_simp; done) | (simp; done)); have hSE : Below w.heap.size w (((((w4.setCell ⟨Ba, 0, none⟩ (.int .i64 a)).setCell ⟨Ba, 1, none⟩ (.int .i64 b)).setCell ⟨Ba, 2, none⟩ (.int .i64 c)).setCell ⟨Ba, 3, none⟩ (.int .i64 d))) := (((hSw.setCell (p := ⟨Ba, 0, none⟩) ya _).setCell (p := ⟨Ba, 1, none⟩) ya _).setCell (p := ⟨Ba, 2, none⟩) ya _).setCell (p := ⟨Ba, 3, none⟩) ya _; refine hK.out _ _ hSE (fun _ => ?_); clear hK K hSw y0 y1 y2 y3 yf ya z0 z1 z2 z3; generalize (((((w4.setCell ⟨Ba, 0, none⟩ (.int .i64 a)).setCell ⟨Ba, 1, none⟩ (.int .i64 b)).setCell ⟨Ba, 2, none⟩ (.int .i64 c)).setCell ⟨Ba, 3, none⟩ (.int .i64 d))) = W5 at *)
    refine wpAnyH_done (by kernel_rfl) ?_ _
  all_goals
    clear c0 c1 c2 c3 d0 d1 d2 d3 HB hbf hbg
    cases ok
    · have HO := Lib.hid (fun w' => HOutm.out w' (by rfl))
      have HR0 : Hid (R = false) := by rw [HR.out]; rfl
      clear HOutm HInm HQm HR K1
      go_wp2_with fail
      refine Calls.mono (HO.out _) ?_
      rintro e w6 ⟨rfl, hb6⟩
      have hB6 := belowTo hSE hb6
      clear hb6 HO g0 g1 g2 g3
      go_wp2_with fail
      refine Calls.mono (none_hit _ _ (hE.below hB6)) ?_
      rintro e w7 ⟨rfl, hb7⟩
      have hB7 := belowTo hB6 hb7
      clear hb7
      go_wp2
      go_returns
      exact ⟨by rw [HR0.out]; rfl, hB7⟩
    · have HI := Lib.hid (fun w' => HInm.out w' (by rfl))
      have HR0 : Hid (R = E) := by rw [HR.out]; rfl
      have HQ2 := Lib.hid (fun B w' hb q0 q1 q2 q3 => HQm.out B w' hb rfl q0 q1 q2 q3)
      clear HOutm HInm HQm HR K1
      go_wp2_with fail
      refine Calls.mono (HI.out _) ?_
      rintro e w6 ⟨rfl, hb6⟩
      replace g1 := (hb6.cell (p := ⟨Ba, 1, none⟩) (cell_lt g0)).trans g1
      replace g2 := (hb6.cell (p := ⟨Ba, 2, none⟩) (cell_lt g0)).trans g2
      replace g3 := (hb6.cell (p := ⟨Ba, 3, none⟩) (cell_lt g0)).trans g3
      replace g0 := (hb6.cell (p := ⟨Ba, 0, none⟩) (cell_lt g0)).trans g0
      have hB6 := belowTo hSE hb6
      clear hb6 HI
      go_wp2_with fail
      refine Calls.mono (none_nil _) ?_
      rintro e w7 ⟨rfl, hb7⟩
      replace g1 := (hb7.cell (p := ⟨Ba, 1, none⟩) (cell_lt g0)).trans g1
      replace g2 := (hb7.cell (p := ⟨Ba, 2, none⟩) (cell_lt g0)).trans g2
      replace g3 := (hb7.cell (p := ⟨Ba, 3, none⟩) (cell_lt g0)).trans g3
      replace g0 := (hb7.cell (p := ⟨Ba, 0, none⟩) (cell_lt g0)).trans g0
      have hB7 := belowTo hB6 hb7
      clear hb7
      go_wp2_with fail
      refine Calls.mono (HQ2.out Ba _ hB7 g0 g1 g2 g3) ?_
      rintro e w8 ⟨rfl, hb8⟩
      have hB8 := belowTo hB7 hb8
      clear hb8 HQ2 g0 g1 g2 g3
      go_wp2
      go_returns
      exact ⟨by rw [HR0.out]; rfl, hB8⟩
end Go.Proofs.YtgaeibibeekclaaDoor

/- slices.Grow of nothing, slices.Concat of two parts, at vectors. -/
namespace Go.Proofs.YtgaeibibeekclaaDoor
open Go.RowKit

theorem zrow (w : World) (k m : Nat) : RowC (w.alloc (.cells (Builtin.zeroCells (#[.int .i64 0, .int .i64 0] : Array Value) k ++ Builtin.zeroCells (#[.int .i64 0, .int .i64 0] : Array Value) m) 31)) w.heap.size (fun _ => (0, 0)) k := by
  have h1 := heap_alloc_new w (.cells (Builtin.zeroCells (#[.int .i64 0, .int .i64 0] : Array Value) k ++ Builtin.zeroCells (#[.int .i64 0, .int .i64 0] : Array Value) m) 31)
  have q : ∀ j, j < k * 2 → (Builtin.zeroCells (#[.int .i64 0, .int .i64 0] : Array Value) k ++ Builtin.zeroCells (#[.int .i64 0, .int .i64 0] : Array Value) m)[j]? = some (.int .i64 0) := by
    intro j hj
    rw [Array.getElem?_append]
    have hz : (Builtin.zeroCells (#[.int .i64 0, .int .i64 0] : Array Value) k).size = k * 2 := by simp [Builtin.zeroCells]
    rw [if_pos (by omega)]
    unfold Builtin.zeroCells
    rw [Array.getElem?_map, Array.getElem?_range, if_pos (by simpa using hj)]
    rcases Nat.mod_two_eq_zero_or_one j with e | e <;> simp [e]
  intro j hj
  exact ⟨⟨by rw [cell_of_row _ _ _ _ _ (0, 0) h1, q _ (by omega)], by rw [cell_of_row _ _ _ _ _ (0, 0) h1, q _ (by omega)]⟩, frozen_of_row _ _ _ _ _ h1, frozen_of_row _ _ _ _ _ h1⟩
theorem RowC.cells {g M : Nat} : ∀ (l : List V2) (o : Nat) (W : World) (c : Nat → V2), RowC W g c M → o + l.length ≤ M →
    RowC (W.setCells g (o * 2) (intsV (flat l))) g (fun j => if o ≤ j ∧ j < o + l.length then cyc l (j - o) else c j) M
  | [], o, W, c, h, _ => fun j hj => by
    have := h j hj
    dsimp only
    rw [if_neg (by rw [List.length_nil]; omega)]
    exact this
  | v :: l, o, W, c, h, hl => by
    rw [List.length_cons] at hl
    have h1 := RowC.put h (k := o) (by omega) v
    have h2 := RowC.cells l (o + 1) _ _ h1 (by omega)
    have e : W.setCells g (o * 2) (intsV (flat (v :: l))) = ((W.setCell ⟨g, o * 2, none⟩ (.int .i64 v.1)).setCell ⟨g, o * 2 + 1, none⟩ (.int .i64 v.2)).setCells g ((o + 1) * 2) (intsV (flat l)) := by
      rw [show (o + 1) * 2 = o * 2 + 1 + 1 by omega]
      rfl
    rw [e]
    intro j hj
    have h3 := h2 j hj
    have ec : (if o + 1 ≤ j ∧ j < o + 1 + l.length then cyc l (j - (o + 1)) else if j = o then v else c j) = (if o ≤ j ∧ j < o + (v :: l).length then cyc (v :: l) (j - o) else c j) := by
      rw [List.length_cons]
      by_cases k1 : j = o
      · subst k1
        rw [if_neg (by omega), if_pos rfl, if_pos (by omega), Nat.sub_self]
        rfl
      · by_cases k2 : o + 1 ≤ j ∧ j < o + 1 + l.length
        · rw [if_pos k2, if_pos (by omega), cyc_lt (by omega), cyc_lt (by simp; omega), show j - o = (j - (o + 1)) + 1 by omega, List.getElem?_cons_succ]
        · rw [if_neg k2, if_neg k1, if_neg (by omega)]
    dsimp only at h3 ⊢
    rw [← ec]
    exact h3
set_option maxHeartbeats 4000000 in
theorem grow_any (n : Nat) (hn : 0 < n) (hm : n ≤ 1000) (w : World) :
    Calls Tryd.prog 102 #[.slice none 0 0, .int .i64 (n : Int)] w fun e w' =>
      ∃ G, e = .returned (.slice (some ⟨w.heap.size, 0, none⟩) 0 G) ∧ n ≤ G ∧ RowC w' w.heap.size (fun _ => (0, 0)) n ∧ Below w.heap.size w w' ∧ w.heap.size < w'.heap.size := by
  obtain ⟨i0, hi, hz0, hz1, hz2⟩ := info_parts infoVec
  have hG := grownCap_ge w (0 + n) 0 31
  have hr := fun ty => Lib.run_append_grow_zeros (P := Tryd.prog) w 23 3 ty 31 i0 (.agg #[.int .i64 (0), .int .i64 (0)]) .i64 .i64 Tryd.underlying23 Tryd.underlying3 hi hz0 none 0 0 [] (run_firstCells_none w.drew i0.size 0 0 0) n hn (by omega) (by omega) (by omega) (by rw [hz2]; omega) (growslice_fits (by omega) (by rw [hz2]; omega))
  have HRow := Lib.hid (zrow w n)
  rw [Nat.zero_add] at hr hG
  generalize grownCap w n 0 31 = G at *
  have h1 : ¬ (n : Int) < 0 := by omega
  have h2 : (0 : Int) < (n : Int) := by omega
  have h3 : IntKind.i64.wrap ((n : Int) - 0) = n := by rw [IntKind.wrap_i64]; omega
  go_enter Tryd.func102, Tryd.ntmps102
  go_wp2_with (at_builtin; refine Lib.wpList_append_run _ rfl _ _ _ _ rfl _ _ rfl rfl _ _ (hr _) ?_)
  go_returns
  exact ⟨G, rfl, hG, HRow.out (G - n), by go_grown, by simp⟩
theorem szC (b : Nat) : ∀ (vs : List Value) (o : Nat) (w : World), (w.setCells b o vs).heap.size = w.heap.size
  | [], _, _ => rfl
  | v :: r, o, w => by
    rw [World.setCells, szC b r]
    simp
theorem RowC.spare {W : World} {g n : Nat} {c : Nat → V2} (h : RowC W g c n) {o m : Nat} (ho : o + m ≤ n) : ∀ j, j < m * 2 → (W.cell? ⟨g, 0 + o * 2 + j, none⟩).isSome = true ∧ W.frozen? ⟨g, 0 + o * 2 + j, none⟩ = false := by
  intro j hj
  obtain ⟨⟨u1, u2⟩, f1, f2⟩ := h (o + j / 2) (by omega)
  rcases Nat.mod_two_eq_zero_or_one j with q | q
  · rw [show (o + j / 2) * 2 = 0 + o * 2 + j by omega] at u1 f1
    exact ⟨by rw [u1]; rfl, f1⟩
  · rw [show (o + j / 2) * 2 + 1 = 0 + o * 2 + j by omega] at u2 f2
    exact ⟨by rw [u2]; rfl, f2⟩
theorem run_appR {W : World} {g n s G : Nat} {c : Nat → V2} (h : RowC W g c n) (l : List V2) (ad : Addr) (k : Nat) (ty : TypeId) (hs : s + l.length ≤ n) (hG : n ≤ G) (hc : ∀ j v, (intsV (flat l))[j]? = some v → W.cell? (ad.add j) = some v) :
    (Builtin.append_ #[23, 23] ty #[.slice (some ⟨g, 0, none⟩) s G, .slice (some ad) l.length k]).run Tryd.prog W = .ok (.slice (some ⟨g, 0, none⟩) (s + l.length) G) (W.setCells g (s * 2) (intsV (flat l))) := by
  obtain ⟨i0, hi, hz0, hz1, hz2⟩ := info_parts infoVec
  have hsp := h.spare hs
  have r := run_append_room_cells (P := Tryd.prog) W 23 ty 31 i0 Tryd.underlying23 hi g 0 s G ad l.length k (intsV (flat l)) (by rw [flatV_len, hz1]) hc (flatV_one l) (by omega)
    (fun j hj => by rw [flatV_len] at hj; rw [hz1]; exact (hsp j hj).1) (fun j hj => by rw [flatV_len] at hj; rw [hz1]; exact (hsp j hj).2)
  rw [hz1, Nat.zero_add] at r
  exact r
set_option maxRecDepth 100000 in
set_option maxHeartbeats 8000000 in
theorem concat_any (B b1 o1 b2 o2 k1 k2 : Nat) (l1 l2 : List V2) (w : World) (h1 : 0 < l1.length) (hm1 : l1.length ≤ 400) (hm2 : l2.length ≤ 400)
    (c0 : w.cell? ⟨B, 0, none⟩ = some (.slice (some ⟨b1, o1, none⟩) l1.length k1)) (c1 : w.cell? ⟨B, 1, none⟩ = some (.slice (some ⟨b2, o2, none⟩) l2.length k2))
    (hl1 : b1 < w.heap.size) (hl2 : b2 < w.heap.size)
    (p1 : ∀ j, j < l1.length → w.cell? ⟨b1, o1 + j * 2, none⟩ = some (.int .i64 (cyc l1 j).1) ∧ w.cell? ⟨b1, o1 + j * 2 + 1, none⟩ = some (.int .i64 (cyc l1 j).2))
    (p2 : ∀ j, j < l2.length → w.cell? ⟨b2, o2 + j * 2, none⟩ = some (.int .i64 (cyc l2 j).1) ∧ w.cell? ⟨b2, o2 + j * 2 + 1, none⟩ = some (.int .i64 (cyc l2 j).2)) :
    Calls Tryd.prog 85 #[.slice (some ⟨B, 0, none⟩) 2 2] w fun e w' => ∃ v', e = .returned v' ∧ ReadsVecs w' v' (l1 ++ l2) ∧ Below w.heap.size w w' := by
  obtain ⟨i0, hi, hz0, hz1, hz2⟩ := info_parts infoVec
  have hBl := cell_lt c0
  have HP1 := Lib.hid (fun w' (hb : Below w.heap.size w w') => flatV_cells (w := w') (bb := b1) (off := o1) (l := l1) (fun j hj => ⟨(hb.cell (p := ⟨b1, _, none⟩) hl1).trans (p1 j hj).1, (hb.cell (p := ⟨b1, _, none⟩) hl1).trans (p1 j hj).2⟩))
  have HP2 := Lib.hid (fun w' (hb : Below w.heap.size w w') => flatV_cells (w := w') (bb := b2) (off := o2) (l := l2) (fun j hj => ⟨(hb.cell (p := ⟨b2, _, none⟩) hl2).trans (p2 j hj).1, (hb.cell (p := ⟨b2, _, none⟩) hl2).trans (p2 j hj).2⟩))
  have HGr := Lib.hid (fun w' => grow_any (l1.length + l2.length) (by omega) (by omega) w')
  have q0 : IntKind.i64.wrap ((0 : Int) + (l1.length : Int)) = (l1.length : Int) := by rw [IntKind.wrap_i64]; omega
  have q1 : IntKind.i64.wrap ((l1.length : Int) + (l2.length : Int)) = ((l1.length + l2.length : Nat) : Int) := by rw [IntKind.wrap_i64]; omega
  have n0 : ¬ (l1.length : Int) < 0 := by omega
  have n1 : ¬ ((l1.length + l2.length : Nat) : Int) < 0 := by omega
  clear p1 p2
  go_enter Tryd.func85, Tryd.ntmps85
  go_wp2
  refine wp_loop_rounds 3 ?_
  rw [rounds_succ]
  go_wp2
  rw [rounds_succ]
  go_wp2
  rw [rounds_succ]
  go_wp2_with fail
  refine Calls.mono (HGr.out _) ?_
  rintro e w1 ⟨G, rfl, hG, HR, hb, hlt⟩
  clear HGr
  have hg0 := hb.size
  have hbg : w.heap.size ≤ w.heap.size := Nat.le_refl _
  have r1 := fun ty => run_appR HR l1 ⟨b1, o1, none⟩ k1 ty (s := 0) (by omega) hG (HP1.out w1 hb)
  rw [Nat.zero_add] at r1
  have HR2 := RowC.cells l1 0 w1 _ HR (by omega)
  have hS2 : Below w.heap.size w (w1.setCells w.heap.size (0 * 2) (intsV (flat l1))) := hb.trans (below_setCells w.heap.size w.heap.size hbg _ _ _)
  have hz2' : (w1.setCells w.heap.size (0 * 2) (intsV (flat l1))).heap.size = w1.heap.size := szC ..
  have r2 := fun ty => run_appR HR2 l2 ⟨b2, o2, none⟩ k2 ty (s := l1.length) (by omega) hG (HP2.out _ hS2)
  have HR3 := RowC.cells l2 l1.length _ _ HR2 (by omega)
  have hS3 := hS2.trans (below_setCells w.heap.size w.heap.size hbg (intsV (flat l2)) (l1.length * 2) _)
  have hz3 : ((w1.setCells w.heap.size (0 * 2) (intsV (flat l1))).setCells w.heap.size (l1.length * 2) (intsV (flat l2))).heap.size = w1.heap.size := by rw [szC, szC]
  generalize (w1.setCells w.heap.size (0 * 2) (intsV (flat l1))).setCells w.heap.size (l1.length * 2) (intsV (flat l2)) = W3 at *
  have d0 := (hS2.cell (p := ⟨B, 0, none⟩) hBl).trans c0
  have d1 := (hS2.cell (p := ⟨B, 1, none⟩) hBl).trans c1
  generalize w1.setCells w.heap.size (0 * 2) (intsV (flat l1)) = W2 at *
  replace c0 := (hb.cell (p := ⟨B, 0, none⟩) hBl).trans c0
  have HF := Lib.hid (HR3.reads (o := l1 ++ l2) (cap := G) (by omega) (by simp) (by omega) hG (fun j hj => by
    rw [List.length_append] at hj
    by_cases k : j < l1.length
    · rw [if_neg (by omega), if_pos (by omega), cyc_lt (by omega), cyc_lt (by rw [List.length_append]; omega), List.getElem?_append_left k]
      rfl
    · rw [if_pos (by omega), cyc_lt (by omega), cyc_lt (by rw [List.length_append]; omega), List.getElem?_append_right (by omega)]))
  rw [List.length_append] at HF
  have hr1 := Lib.hid r1
  have hr2 := Lib.hid r2
  have hS3' := Lib.hid hS3
  clear HR HR2 HR3 hS2 HP1 HP2 hz2' hz3 hb hlt hg0 hbg hG hz0 hz1 hz2 hi hl1 hl2 h1 hm1 hm2 hBl r1 r2 hS3
  go_wp2
  refine wp_loop_rounds 3 ?_
  rw [rounds_succ]
  go_wp2_with (at_builtin; refine Lib.wpList_append_run w1 rfl (.tmp 31) (.tmp 32) 23 23 rfl (.slice (some ⟨w.heap.size, 0, none⟩) 0 G) (.slice (some ⟨b1, o1, none⟩) l1.length k1) rfl rfl _ _ (hr1.out _) ?_)
  rw [rounds_succ]
  go_wp2_with (at_builtin; refine Lib.wpList_append_run W2 rfl (.tmp 31) (.tmp 32) 23 23 rfl (.slice (some ⟨w.heap.size, 0, none⟩) l1.length G) (.slice (some ⟨b2, o2, none⟩) l2.length k2) rfl rfl _ _ (hr2.out _) ?_)
  rw [rounds_succ]
  go_wp2
  go_returns
  exact ⟨_, rfl, HF.out, hS3'.out⟩
end Go.Proofs.YtgaeibibeekclaaDoor

/- PolygonSame, the program: leadsTo. -/
namespace Go.Proofs.YtgaeibibeekclaaDoor
open Go.RowKit

def leadsM (p q : List V2) (i : Nat) : Bool := MvL (waysL p) (rot i (waysL q))
theorem leadsM_is {p q : List V2} (hp : 0 < p.length) (hq : 0 < q.length) {i : Nat} (hi : i ≤ q.length) : leadsM p q i = (p.length == q.length && mvB (wayZ p) (fun k => wayZ q (i + k)) p.length) := by
  unfold leadsM
  rw [MvL_is, rot_len, waysL_len, waysL_len, show cyc (waysL p) = wayZ p from funext (cyc_ways hp), show cyc (rot i (waysL q)) = fun k => wayZ q (i + k) from funext fun k => by rw [cyc_rot (by rw [waysL_len]; exact hi), cyc_ways hq]]
theorem leads_all {p q : List V2} (hp : 0 < p.length) (hq : 0 < q.length) (h : ∀ i, i < q.length → leadsM p q i = false) : leadsB p q = false := by
  unfold leadsB
  cases e : (p.length == q.length)
  · rfl
  · rw [Bool.true_and, List.any_eq_false]
    intro i hi
    have hi := List.mem_range.1 hi
    have := h i hi
    rw [leadsM_is hp hq (by omega), e, Bool.true_and] at this
    rw [this]
    decide
theorem leads_one {p q : List V2} (hp : 0 < p.length) (hq : 0 < q.length) {i : Nat} (hi : i < q.length) (h : leadsM p q i = true) : leadsB p q = true := by
  rw [leadsM_is hp hq (by omega), Bool.and_eq_true] at h
  unfold leadsB
  rw [h.1, Bool.true_and, List.any_eq_true]
  exact ⟨i, List.mem_range.2 hi, h.2⟩
set_option maxRecDepth 100000 in
set_option maxHeartbeats 16000000 in
theorem leadsTo_any (v u : Value) (p q : List V2) (w : World) (hp : ReadsVecs w v p) (hq : ReadsVecs w u q) (hE : EtOk w) (h1 : polyB p = true) (h2 : polyB q = true) :
    Calls Tryd.prog 61 #[v, u] w fun e w' => e = .returned (.bool (leadsB p q)) ∧ Below w.heap.size w w' := by
  have p3 := poly_len h1
  have q3 := poly_len h2
  have HW1 := Lib.hid (fun w' (hb : Below w.heap.size w w') => ways_any v p w' (hp.below hb) (by omega) (by omega) (fun i => by have := poly_small h1 i; unfold big; omega))
  have HW2 := Lib.hid (fun w' (hb : Below w.heap.size w w') => ways_any u q w' (hq.below hb) (by omega) (by omega) (fun i => by have := poly_small h2 i; unfold big; omega))
  have wp : ∀ i, wy2 (wayZ p i) := fun i => way_small (allK_all (poly_in h1).2.1 (by omega)) i
  have wq : ∀ i, wy2 (wayZ q i) := fun i => way_small (allK_all (poly_in h2).2.1 (by omega)) i
  have HM := Lib.hid (fun v' u' i w' (hi : i < q.length) (hb : Below w.heap.size w w') (hf : ReadsVecs w' v' (waysL p)) (hg : ReadsVecs w' u' (rot i (waysL q))) =>
    moveAll_any v' u' (waysL p) (rot i (waysL q)) w' hf hg (hE.below hb) (by rw [waysL_len]; omega) (by rw [rot_len, waysL_len]; omega) (by rw [waysL_len]; omega)
      (fun k => by rw [cyc_ways (by omega)]; exact wp k) (fun k => by rw [cyc_rot (by rw [waysL_len]; omega), cyc_ways (by omega)]; exact wq _) (by rw [cyc_ways (by omega), cyc_ways (by omega)]; exact way_detnz h1))
  have HN := Lib.hid (fun h => leads_all (p := p) (q := q) (by omega) (by omega) h)
  have HO := Lib.hid (fun i hi h => leads_one (p := p) (q := q) (i := i) (by omega) (by omega) hi h)
  have lp := waysL_len p
  have lq := waysL_len q
  have HR : Hid (∀ i, MvL (waysL p) (rot i (waysL q)) = leadsM p q i) := fun i => rfl
  clear hp hq wp wq hE h1 h2
  unfold GivesVecs at HW1 HW2
  generalize leadsM p q = F at *
  generalize leadsB p q = R at *
  generalize p.length = np at *
  generalize q.length = nq at *
  generalize waysL p = P at *
  generalize waysL q = Q at *
  clear p q
  go_enter Tryd.func61, Tryd.ntmps61
  go_wp2_with fail
  refine Calls.mono (HW1.out _ (by go_grown)) ?_
  rintro e w1 ⟨v1, rfl, hV1, hb1⟩
  go_wp2_with fail
  refine Calls.mono (HW2.out _ (by go_grown)) ?_
  rintro e w2 ⟨v2, rfl, hV2, hb2⟩
  have hR1 := (hV1.reads (by omega)).below hb2
  have hB := belowTo hb1 hb2
  obtain ⟨bt, ot, ct, rfl, hct, _, hbt, hcs⟩ := (hV2.reads (by omega)).open (by omega)
  rw [lq] at hct hcs ⊢
  clear hV1 hV2 hb1 hb2 HW1 HW2
  have HC := Lib.hid hcs
  have HR1 := Lib.hid (fun w' (hb : Below w2.heap.size w2 w') => hR1.below hb)
  clear hcs hR1
  go_wp2
  go_loopw [14] (fun s14 wr => ∃ k : Nat, k ≤ nq ∧ s14 = .int .i64 k ∧ Hid (∀ j, j < k → F j = false) ∧ Below w2.heap.size w2 wr) (fun s14 _ => nq - (intOf s14).toNat)
  case atStart => exact ⟨0, Nat.zero_le _, rfl, Lib.hid (fun j hj => absurd hj (Nat.not_lt_zero j)), Below.refl _ _⟩
  case round =>
    obtain ⟨k, hk, rfl, HE, hBr⟩ := hrel
    have i1 : (0 : Int) ≤ (k : Int) := by omega
    by_cases hlt : k < nq
    · have i2 : (k : Int) < (nq : Int) := by omega
      have i3 : (k : Int) ≤ (nq : Int) := by omega
      have i4 : k ≤ nq := hk
      have i5 : k ≤ ct := by omega
      have i7 : ¬ ct = k := by omega
      have i6 : (k : Int) ≤ (ct : Int) := by omega
      have q0 : IntKind.i64.wrap ((k : Int) + 1) = ((k + 1 : Nat) : Int) := by rw [IntKind.wrap_i64]; omega
      have HMk := Lib.hid (fun u' w' (hb : Below wr.heap.size wr w') hg => HM.out v1 u' k w' hlt (hB.trans ((hBr.trans (hb.mono hBr.size)).mono hB.size)) (HR1.out w' (hBr.trans (hb.mono hBr.size))) hg)
      rw [HR.out k] at HMk
      have HOk := Lib.hid (HO.out k hlt)
      have HE2 : Hid (F k = false → ∀ j, j < k + 1 → F j = false) := fun h j hj => by
        by_cases e : j = k
        · subst e; exact h
        · exact HE.out j (by omega)
      have hbt2 : bt < wr.heap.size := Nat.lt_of_lt_of_le hbt hBr.size
      have HCk := Lib.hid (fun Bb w' (hb : Below wr.heap.size wr w') (c0 : w'.cell? ⟨Bb, 0, none⟩ = some (.slice (some ⟨bt, ot + k * 2, none⟩) (nq - k) (ct - k))) (c1 : w'.cell? ⟨Bb, 1, none⟩ = some (.slice (some ⟨bt, ot, none⟩) k ct)) => concat_any Bb bt (ot + k * 2) bt ot (ct - k) ct (Q.drop k) (Q.take k) w'
        (by rw [List.length_drop]; omega) (by rw [List.length_drop]; omega) (by rw [List.length_take]; omega) (by rw [List.length_drop, lq]; exact c0) (by rw [List.length_take, lq, Nat.min_eq_left (by omega)]; exact c1)
        (Nat.lt_of_lt_of_le hbt2 hb.size) (Nat.lt_of_lt_of_le hbt2 hb.size)
        (fun j hj => by
          rw [List.length_drop, lq] at hj
          have h := HC.out w' (hBr.trans (hb.mono hBr.size)) (k + j) (by omega)
          rw [show ot + (k + j) * 2 = ot + k * 2 + j * 2 by omega] at h
          rw [cyc_lt (by rw [List.length_drop]; omega), List.getElem?_drop, ← cyc_lt (by omega)]
          exact h)
        (fun j hj => by
          rw [List.length_take, lq] at hj
          have h := HC.out w' (hBr.trans (hb.mono hBr.size)) j (by omega)
          rw [cyc_lt (by rw [List.length_take]; omega), List.getElem?_take_of_lt (by omega), ← cyc_lt (by omega)]
          exact h))
      rw [show Q.drop k ++ Q.take k = rot k Q from rfl] at HCk
      have hBw := hB.trans (hBr.mono hB.size)
      have hsw := hBw.size
      have hBrr := hBr
      have hsr := hBr.size
      generalize hF : F k = b at HMk HOk HE2
      clear hF HM HR HO HN HE HC HR1 hB hBr hbt hbt2 hk
      go_upto_region 5 with fail
      refine wp_region_any (by kernel_rfl) ?_
      try (change wpAny _ _ _ _ _ _ _ (World.drew _))
      refine wpAny_of_held (S := fun w' => Below (wr.heap.size) wr w') _ _ _ _ ?_
      have hSw : Below (wr.heap.size) wr (World.drew wr) := by go_grown
      generalize World.drew wr = wd at hSw ⊢
      refine wpAnyH_take (i := 0) (v := ?_) rfl (by kernel_rfl) (by kernel_rfl) (by kernel_rfl) (fun _ _ _ h => h) (Or.inl ⟨by rfl, ?_⟩) hSw ?_
      rotate_left
      focus (intro w0 hS0; clear hS0; go_simp; try with_reducible rfl)
      refine wpAnyH_take (i := 1) (v := ?_) rfl (by kernel_rfl) (by kernel_rfl) (by kernel_rfl) (fun _ _ _ h => h) (Or.inl ⟨by rfl, ?_⟩) hSw ?_
      rotate_left
      focus (intro w0 hS0; clear hS0; go_simp; try with_reducible rfl)
      refine wpAnyH_take (i := 2) (v := ?_) rfl (by kernel_rfl) (by kernel_rfl) (by kernel_rfl) (fun _ _ _ h => h) (Or.inl ⟨by rfl, ?_⟩) hSw ?_
      rotate_left
      focus (intro w0 hS0; clear hS0; go_simp; try with_reducible rfl)
      refine wpAnyH_take (i := 3) (v := ?_) rfl (by kernel_rfl) (by kernel_rfl) (by kernel_rfl) (fun _ _ _ h => h) (Or.inl ⟨by rfl, ?_⟩) hSw ?_
      rotate_left
      focus (intro w0 hS0; clear hS0; go_simp; try with_reducible rfl)
      refine wpAnyH_take (i := 4) (v := ?_) rfl (by kernel_rfl) (by kernel_rfl) (by kernel_rfl) (fun _ _ _ h => h) (Or.inl ⟨by rfl, ?_⟩) hSw ?_
      rotate_left
      focus (intro w0 hS0; clear hS0; go_simp; try with_reducible rfl)
      refine wpAnyH_take (i := 5) (v := ?_) rfl (by kernel_rfl) (by kernel_rfl) (by kernel_rfl) (fun _ _ _ h => h) (Or.inl ⟨by rfl, ?_⟩) hSw ?_
      rotate_left
      focus (intro w0 hS0; clear hS0; go_simp; try with_reducible rfl)
      refine wpAnyH_take (i := 6) (v := ?_) rfl (by kernel_rfl) (by kernel_rfl) (by kernel_rfl) (fun _ _ _ h => h) (Or.inl ⟨by rfl, ?_⟩) hSw ?_
      rotate_left
      focus (intro w0 hS0; clear hS0; go_simp; try with_reducible rfl)
      refine wpAnyH_ready (rs := [7]) (by kernel_rfl) (by simp) (AllReadyH.cons rfl (fun K hK => ?_) (AllReadyH.nil))
      go_simp
      (have y0 : (wd.alloc (.cells #[(.slice (some ⟨bt, ot + k * 2, none⟩) (nq - k) (ct - k)), (.slice (some ⟨bt, ot, none⟩) k ct)] 23)).cell? ⟨wd.heap.size, 0, none⟩ = some (.slice (some ⟨bt, ot + k * 2, none⟩) (nq - k) (ct - k)) := (by simp); have y1 : (wd.alloc (.cells #[(.slice (some ⟨bt, ot + k * 2, none⟩) (nq - k) (ct - k)), (.slice (some ⟨bt, ot, none⟩) k ct)] 23)).cell? ⟨wd.heap.size, 1, none⟩ = some (.slice (some ⟨bt, ot, none⟩) k ct) := (by simp); replace hSw := hSw.alloc hSw.size (.cells #[(.slice (some ⟨bt, ot + k * 2, none⟩) (nq - k) (ct - k)), (.slice (some ⟨bt, ot, none⟩) k ct)] 23); have HCo := Lib.hid (HCk.out wd.heap.size _ hSw y0 y1); clear y0 y1; refine hK.out _ _ hSw (fun _ => ?_); clear hK K; generalize wd.alloc (.cells #[(.slice (some ⟨bt, ot + k * 2, none⟩) (nq - k) (ct - k)), (.slice (some ⟨bt, ot, none⟩) k ct)] 23) = wb at *; generalize wd.heap.size = Bb at *)
      refine wpAnyH_ready (rs := [8]) (by kernel_rfl) (by simp) (AllReadyH.cons rfl (fun K hK => ?_) (AllReadyH.nil))
      go_simp
      (refine Calls.mono HCo.out ?_; rintro e wc ⟨vr, rfl, hRr, hbX⟩; replace hSw := belowTo hSw hbX; have HMo := Lib.hid (HMk.out vr _ hSw hRr); refine hK.out _ _ hSw (fun _ => ?_); clear hK K hbX hRr HCo)
      refine wpAnyH_ready (rs := [9]) (by kernel_rfl) (by simp) (AllReadyH.cons rfl (fun K hK => ?_) (AllReadyH.nil))
      go_simp
      (refine Calls.mono HMo.out ?_; rintro e wd ⟨rfl, hbX⟩; have hSE := belowTo hSw hbX; refine hK.out _ _ hSE (fun _ => ?_); clear hK K hSw HMo hbX)
      refine wpAnyH_done (by kernel_rfl) ?_ _
      have hBE := hBw.trans (hSE.mono hsw)
      have HBr := Lib.hid (hBrr.trans (hSE.mono hsr))
      clear hSE hBw hsw hBrr hsr
      cases b
      · have HF := Lib.hid (HE2.out rfl)
        clear HE2 HOk
        go_wp2
        go_roundw
        case rel => exact ⟨k + 1, by omega, by go_num, HF, HBr.out⟩
        case measure => simp [intOf]; omega
      · have HF := Lib.hid (HOk.out rfl)
        clear HE2 HOk
        go_wp2
        go_returns
        exact ⟨by rw [HF.out]; rfl, hBE⟩
    · obtain rfl : k = nq := by omega
      have HF := Lib.hid (HN.out HE.out)
      have hBw := hB.trans (hBr.mono hB.size)
      have i2 : ¬ ((k : Nat) : Int) < (k : Int) := by omega
      clear HM HR HO HN HE HC HR1 hB hBr
      go_wp2
      go_returns
      exact ⟨by rw [HF.out]; rfl, hBw⟩
end Go.Proofs.YtgaeibibeekclaaDoor

/- PolygonSame: the program. -/
namespace Go.Proofs.YtgaeibibeekclaaDoor
open Go.RowKit

set_option maxRecDepth 100000 in
set_option maxHeartbeats 8000000 in
theorem polygonSame_any (v u : Value) (p q : List V2) (w : World) (hl : ReadsVecs w v p) (hl2 : ReadsVecs w u q) (hg : EtOk w) :
    Calls Tryd.prog 30 #[v, u] w fun e w' => e = .returned (.bool (sameL p q)) ∧ Below w.heap.size w w' := by
  have HC := Lib.hid (fun B w' (hb : Below w.heap.size w w') c0 c1 hB => checkAll_pp v u p q B w' (hl.below hb) (hl2.below hb) c0 c1 hB)
  have HCh := Lib.hid (fun w' (hb : Below w.heap.size w w') (hK : polyB p = true) =>
    changedM v p 0 1 1 0 (moveF 0 1 1 0) w' (hg.below hb) (hl.below hb) (by have := poly_len hK; omega) (by have := poly_len hK; omega) (fun i => poly_small hK i)
      (fun W x y _ hxy => move_any 0 1 1 0 x y W rfl rfl rfl rfl (sz_of (by unfold big at hxy; omega)) (sz_of (by unfold big at hxy; omega))) (move_big hK rfl))
  have HL1 := Lib.hid (fun w' (hb : Below w.heap.size w w') h1 h2 => leadsTo_any v u p q w' (hl.below hb) (hl2.below hb) (hg.below hb) h1 h2)
  have HL2 := Lib.hid (fun v' w' (hb : Below w.heap.size w w') (hr : ReadsVecs w' v' (overL p)) h1 h2 => leadsTo_any v' u (overL p) q w' hr (hl2.below hb) (hg.below hb) h1 h2)
  have hR : sameL p q = ((polyB p && polyB q) && (leadsB p q || leadsB (overL p) q)) := rfl
  rw [hR]
  obtain ⟨a, c, rfl, _⟩ := hl
  obtain ⟨a2, c2, rfl, _⟩ := hl2
  cases hk : (polyB p && polyB q)
  · rw [hk] at HC
    clear hk HCh HL1 HL2 hR
    rw [Bool.false_and]
    go_enter Tryd.func30, Tryd.ntmps30
    go_wp2_with fail
    refine Calls.mono (HC.out _ _ (by go_grown) (by go_cell) (by go_cell) (by go_size)) ?_
    rintro e w1 ⟨he, hb1⟩
    obtain ⟨s, rfl⟩ : IsNone e := he
    have hb : Below w.heap.size w w1 := belowTo (by go_grown) hb1
    clear hb1
    go_wp2_with fail
    refine Calls.mono (none_hit s _ (hg.below hb)) ?_
    rintro e w2 ⟨rfl, hb2⟩
    replace hb := belowTo hb hb2
    clear hb2
    go_wp2
    go_returns
    exact ⟨rfl, hb⟩
  · rw [hk] at HC
    have hk2 : polyB p = true ∧ polyB q = true := by simpa using hk
    obtain ⟨m1, m2⟩ := hull_move hk2.1 (show matB 0 1 1 0 = true from rfl)
    obtain ⟨o1, o2⟩ := over_poly hk2.1
    have HC2 := Lib.hid (fun w' hb => HCh.out w' hb hk2.1)
    have m3 : polyB (moveL 0 1 1 0 p) = true := by rw [← tidyP_poly]; exact o1
    rw [m2, m1, m3] at HC2
    have HA := Lib.hid (fun w' hb => HL1.out w' hb hk2.1 hk2.2)
    have HB := Lib.hid (fun v' w' hb (hr : ReadsVecs w' v' (overL p)) => HL2.out v' w' hb hr o1 hk2.2)
    have hol : (overL p).length ≤ 576460752303423488 := by have := poly_len o1; omega
    rw [show gV true (tidyP (moveL 0 1 1 0 p)) = overL p from rfl] at HC2
    unfold GivesVecsR at HC2
    clear HCh HL1 HL2 hk hk2 m1 m2 m3 o1 o2 hR
    rw [Bool.true_and]
    generalize leadsB p q = X at *
    generalize leadsB (overL p) q = Y at *
    generalize overL p = O at *
    go_enter Tryd.func30, Tryd.ntmps30
    go_wp2_with fail
    refine Calls.mono (HC.out _ _ (by go_grown) (by go_cell) (by go_cell) (by go_size)) ?_
    rintro e w1 ⟨he, hb1⟩
    obtain rfl : e = .returned .nilIface := he
    have hb : Below w.heap.size w w1 := belowTo (by go_grown) hb1
    clear hb1 HC
    go_wp2_with fail
    refine Calls.mono (none_nil _) ?_
    rintro e w2 ⟨rfl, hb2⟩
    replace hb := belowTo hb hb2
    clear hb2
    go_wp2_with fail
    refine Calls.mono (HC2.out _ hb) ?_
    rintro e w3 ⟨v3, rfl, I3, hb3⟩
    have hR3 := I3.reads hol
    replace hb := belowTo hb hb3
    clear hb3 I3 HC2
    go_wp2_with fail
    refine Calls.mono (HA.out _ hb) ?_
    rintro e w4 ⟨rfl, hb4⟩
    have hR4 := hR3.below hb4
    replace hb := belowTo hb hb4
    clear hb4 HA hR3
    cases X
    · have HB2 := Lib.hid (HB.out v3 _ hb hR4)
      clear HB hR4
      go_wp2_with fail
      refine Calls.mono HB2.out ?_
      rintro e w5 ⟨rfl, hb5⟩
      replace hb := belowTo hb hb5
      clear hb5 HB2
      go_wp2
      go_returns
      exact ⟨rfl, hb⟩
    · clear HB hR4
      go_wp2
      go_returns
      exact ⟨rfl, hb⟩
end Go.Proofs.YtgaeibibeekclaaDoor
