import Derived.Test.YtgaeibibeekclaaDoorXe
import Derived.Test.YtgaeibibeekclaaDoorL2
import Derived.Test.YtgaeibibeekclaaDoorWf
import Derived.Test.YtgaeibibeekclaaDoorB2
import Derived.Test.YtgaeibibeekclaaDoorI7
import Derived.Deep.CutRange
/- PolygonSame, the model: l6gFits. -/
namespace Go.Proofs.YtgaeibibeekclaaDoor
open Go.RowKit

theorem mulS2 {a b : Int} (ha : -200 ≤ a ∧ a ≤ 200) (hb : -200 ≤ b ∧ b ≤ 200) : -40000 ≤ a * b ∧ a * b ≤ 40000 := by
  have h1 := Int.mul_nonneg (show 0 ≤ a + 200 by omega) (show 0 ≤ b + 200 by omega)
  have h2 := Int.mul_nonneg (show 0 ≤ 200 - a by omega) (show 0 ≤ 200 - b by omega)
  have h3 := Int.mul_nonneg (show 0 ≤ a + 200 by omega) (show 0 ≤ 200 - b by omega)
  have h4 := Int.mul_nonneg (show 0 ≤ 200 - a by omega) (show 0 ≤ b + 200 by omega)
  rw [Int.add_mul, Int.mul_add, Int.mul_add] at h1
  rw [Int.sub_mul, Int.mul_sub, Int.mul_sub] at h2
  rw [Int.add_mul, Int.mul_sub, Int.mul_sub] at h3
  rw [Int.sub_mul, Int.mul_add, Int.mul_add] at h4
  omega
theorem tdivS_small {x d : Int} (hx : -80000 ≤ x ∧ x ≤ 80000) : -80000 ≤ x.tdiv d ∧ x.tdiv d ≤ 80000 := by
  have h : (x.tdiv d).natAbs ≤ x.natAbs := by rw [Int.natAbs_tdiv]; exact Nat.div_le_self _ _
  omega
set_option maxRecDepth 100000 in
set_option maxHeartbeats 64000000 in
theorem l6gFits_any (v u : Value) (p q : List V2) (i s : Nat) (w : World) (hp : ReadsVecs w v p) (hq : ReadsVecs w u q) (h1 : polyB p = true) (h2 : polyB q = true) (hl : p.length = q.length) (hi : i < q.length) (hs : s < q.length) :
    Calls Tryd.prog 58 #[v, u, .int .i64 (i : Int), .int .i64 (s : Int)] w fun e w' => e = .returned (.bool (fitL p q i s)) ∧ Below w.heap.size w w' := by
  have q3 := poly_len h2
  obtain ⟨bp, op, cp, rfl, _, _, hbp, hps⟩ := hp.open (by omega)
  obtain ⟨bq, oq, cq, rfl, _, _, hbq, hqs⟩ := hq.open (by omega)
  have HPs := Lib.hid hps
  have HQs := Lib.hid hqs
  obtain ⟨a0, a1⟩ := hps w (Below.refl _ _) 0 (by omega)
  obtain ⟨a2, a3⟩ := hps w (Below.refl _ _) 1 (by omega)
  obtain ⟨a4, a5⟩ := hps w (Below.refl _ _) 2 (by omega)
  obtain ⟨d0, d1⟩ := hqs w (Below.refl _ _) i hi
  obtain ⟨d2, d3⟩ := hqs w (Below.refl _ _) ((i + s) % q.length) (Nat.mod_lt _ (by omega))
  obtain ⟨d4, d5⟩ := hqs w (Below.refl _ _) ((i + 2 * s) % q.length) (Nat.mod_lt _ (by omega))
  rw [cyc_mod] at d2 d3 d4 d5
  rw [Nat.zero_mul, Nat.add_zero] at a0 a1
  rw [Nat.one_mul] at a2 a3
  have r1 := Nat.mod_lt (i + s) (show 0 < q.length by omega)
  have r2 := Nat.mod_lt (i + 2 * s) (show 0 < q.length by omega)
  have t1' : Int.tmod ((i : Int) + (s : Int)) (q.length : Int) = (((i + s) % q.length : Nat) : Int) := by rw [← mod_is]; simp
  have t2' : Int.tmod ((i : Int) + 2 * (s : Int)) (q.length : Int) = (((i + 2 * s) % q.length : Nat) : Int) := by rw [← mod_is]; simp
  have w1' : IntKind.i64.wrap ((i : Int) + (s : Int)) = (i : Int) + (s : Int) := by rw [IntKind.wrap_i64]; omega
  have w2' : IntKind.i64.wrap (2 * (s : Int)) = 2 * (s : Int) := by rw [IntKind.wrap_i64]; omega
  have w3' : IntKind.i64.wrap ((i : Int) + 2 * (s : Int)) = (i : Int) + 2 * (s : Int) := by rw [IntKind.wrap_i64]; omega
  have b0 := poly_small h1 0
  have b1 := poly_small h1 1
  have b2 := poly_small h1 2
  have c0 := poly_small h2 i
  have c1 := poly_small h2 (i + s)
  have c2 := poly_small h2 (i + 2 * s)
  have HFit : Hid (fitL p q i s = (dvB (subV (cyc p 1) (cyc p 0)) (subV (cyc p 2) (cyc p 1)) (subV (cyc q (i + s)) (cyc q i)) (subV (cyc q (i + 2 * s)) (cyc q (i + s))) &&
      ((mtw (subV (cyc p 1) (cyc p 0)) (subV (cyc p 2) (cyc p 1)) (subV (cyc q (i + s)) (cyc q i)) (subV (cyc q (i + 2 * s)) (cyc q (i + s)))).ok &&
        allMv (mtw (subV (cyc p 1) (cyc p 0)) (subV (cyc p 2) (cyc p 1)) (subV (cyc q (i + s)) (cyc q i)) (subV (cyc q (i + 2 * s)) (cyc q (i + s)))) (wayZ p) (stpQ q i s) p.length))) := by
    have e0 : stpQ q i s 0 = subV (cyc q (i + s)) (cyc q i) := by unfold stpQ; simp
    have e1 : stpQ q i s 1 = subV (cyc q (i + 2 * s)) (cyc q (i + s)) := by unfold stpQ; simp
    show _ = _
    unfold fitL fitF mvB
    rw [e0, e1]
    rfl
  have HD0 : Hid (0 < detV (subV (cyc p 1) (cyc p 0)) (subV (cyc p 2) (cyc p 1))) := (poly_round h1).turn 0
  have j0 : (0 : Int) < (p.length : Int) := by omega
  have j1 : (1 : Int) < (p.length : Int) := by omega
  have j2 : (2 : Int) < (p.length : Int) := by omega
  have j0' : 0 < p.length := by omega
  have j1' : 1 < p.length := by omega
  have j2' : 2 < p.length := by omega
  have hR : Hid (∀ k, k < q.length → (stpQ q i s k = subV (cyc q ((i + (k + 1) * s) % q.length)) (cyc q ((i + k * s) % q.length)))) := fun k _ => by unfold stpQ; rw [cyc_mod, cyc_mod]
  have hRp : Hid (∀ k, wayZ p k = subV (cyc p ((k + 1) % p.length)) (cyc p k)) := fun k => by rw [cyc_mod]; rfl
  have HS1 := Lib.hid (fun k => poly_small h1 k)
  have HS2 := Lib.hid (fun k => poly_small h2 k)
  clear hp hq hps hqs h1 h2
  generalize (i + s) % q.length = r at *
  generalize (i + 2 * s) % q.length = t at *
  rw [hl] at *
  generalize q.length = n at *
  have i0 : (0 : Int) ≤ (i : Int) := by omega
  have i1 : (i : Int) < (n : Int) := by omega
  have i2 : (0 : Int) ≤ (r : Int) := by omega
  have i3 : (r : Int) < (n : Int) := by omega
  have i4 : (0 : Int) ≤ (t : Int) := by omega
  have i5 : (t : Int) < (n : Int) := by omega
  have n1 : ¬ (n : Int) = 0 := by omega
  have n2 : ((n : Int) == 0) = false := by simpa using n1
  have n3 : ¬ n = 0 := by omega
  generalize fitL p q i s = R at *
  have HAll : Hid (∀ m : M4, (∃ k, k < n ∧ (m.mv (wayZ p k) == stpQ q i s k) = false) → allMv m (wayZ p) (stpQ q i s) n = false) := fun m ⟨k, hk, h⟩ => allMv_stop hk h
  have HAll2 : Hid (∀ m : M4, (∀ k, k < n → (m.mv (wayZ p k) == stpQ q i s k) = true) → allMv m (wayZ p) (stpQ q i s) n = true) := fun m h => allMv_all h
  generalize hP0 : cyc p 0 = P0 at a0 a1 b0 HFit HD0
  generalize hP1 : cyc p 1 = P1 at a2 a3 b1 HFit HD0
  generalize hP2 : cyc p 2 = P2 at a4 a5 b2 HFit HD0
  generalize hQ0 : cyc q i = Q0 at d0 d1 c0 HFit
  generalize hQ1 : cyc q (i + s) = Q1 at d2 d3 c1 HFit
  generalize hQ2 : cyc q (i + 2 * s) = Q2 at d4 d5 c2 HFit
  clear hP0 hP1 hP2 hQ0 hQ1 hQ2
  obtain ⟨x0, y0⟩ := P0
  obtain ⟨x1, y1⟩ := P1
  obtain ⟨x2, y2⟩ := P2
  obtain ⟨z0, t0⟩ := Q0
  obtain ⟨z1, t1⟩ := Q1
  obtain ⟨z2, t2⟩ := Q2
  dsimp only at a0 a1 a2 a3 a4 a5 d0 d1 d2 d3 d4 d5 b0 b1 b2 c0 c1 c2
  have HWa := Lib.hid (fun w' => l6gWay_any x0 y0 x1 y1 w' (by unfold big; omega) (by unfold big; omega))
  have HWb := Lib.hid (fun w' => l6gWay_any x1 y1 x2 y2 w' (by unfold big; omega) (by unfold big; omega))
  have HWc := Lib.hid (fun w' => l6gWay_any z0 t0 z1 t1 w' (by unfold big; omega) (by unfold big; omega))
  have HWe := Lib.hid (fun w' => l6gWay_any z1 t1 z2 t2 w' (by unfold big; omega) (by unfold big; omega))
  unfold subV at HFit HD0
  dsimp only at HFit HD0
  have e1 : -200 ≤ x1 - x0 ∧ x1 - x0 ≤ 200 := by omega
  have e2 : -200 ≤ y1 - y0 ∧ y1 - y0 ≤ 200 := by omega
  have e3 : -200 ≤ x2 - x1 ∧ x2 - x1 ≤ 200 := by omega
  have e4 : -200 ≤ y2 - y1 ∧ y2 - y1 ≤ 200 := by omega
  have e5 : -200 ≤ z1 - z0 ∧ z1 - z0 ≤ 200 := by omega
  have e6 : -200 ≤ t1 - t0 ∧ t1 - t0 ≤ 200 := by omega
  have e7 : -200 ≤ z2 - z1 ∧ z2 - z1 ≤ 200 := by omega
  have e8 : -200 ≤ t2 - t1 ∧ t2 - t1 ≤ 200 := by omega
  generalize x1 - x0 = ax at *
  generalize y1 - y0 = ay at *
  generalize x2 - x1 = bx at *
  generalize y2 - y1 = by' at *
  generalize z1 - z0 = cx at *
  generalize t1 - t0 = cy at *
  generalize z2 - z1 = ex at *
  generalize t2 - t1 = ey at *
  have HDt := Lib.hid (fun w' => l1Det_any ax ay bx by' w' (vec_of (by omega)) (vec_of (by omega)))
  have m1 := mulS2 e5 e4
  have m2 := mulS2 e7 e2
  have m3 := mulS2 e7 e1
  have m4 := mulS2 e5 e3
  have m5 := mulS2 e6 e4
  have m6 := mulS2 e8 e2
  have m7 := mulS2 e8 e1
  have m8 := mulS2 e6 e3
  have HM8 := Lib.hid (And.intro (And.intro m1 m2) (And.intro (And.intro m3 m4) (And.intro (And.intro m5 m6) (And.intro m7 m8))))
  have HN30 := Lib.hid (And.intro q3 (And.intro hi hs))
  clear b0 b1 b2 c0 c1 c2 e1 e2 e3 e4 e5 e6 e7 e8 m1 m2 m3 m4 m5 m6 m7 m8 hl hi hs q3 r1 r2
  have hB : Below w.heap.size w w := Below.refl _ _
  go_enter Tryd.func58, Tryd.ntmps58
  go_upto_region 2 with fail
  go_cut [10] from 20 (fun s wx => ∃ B, s = .pointer (some ⟨B, 0, none⟩) ∧ wx.cell? ⟨B, 0, none⟩ = some (.int .i64 (ax)) ∧ wx.cell? ⟨B, 1, none⟩ = some (.int .i64 (ay)) ∧ Hid (Below w.heap.size w wx))
  case first =>
    refine wp_region_any (by kernel_rfl) ?_
    try (change wpAny _ _ _ _ _ _ _ (World.drew _))
    refine wpAny_of_held (S := fun w' => Below (w.heap.size) w w') _ _ _ _ ?_
    have hSw : Below (w.heap.size) w (World.drew w) := by go_grown
    generalize World.drew w = wd at hSw ⊢
    refine wpAnyH_take (i := 0) (v := ?_) rfl (by kernel_rfl) (by kernel_rfl) (by kernel_rfl) (fun _ _ _ h => h) (Or.inl ⟨by rfl, ?_⟩) hSw ?_
    rotate_left
    focus (intro w0 hS0; clear hS0; go_simp; try with_reducible rfl)
    refine wpAnyH_take (i := 1) (v := ?_) rfl (by kernel_rfl) (by kernel_rfl) (by kernel_rfl) (fun _ _ _ h => h) (Or.inl ⟨by rfl, ?_⟩) hSw ?_
    rotate_left
    focus (intro w0 hS0; clear hS0; go_simp; try with_reducible rfl)
    refine wpAnyH_take (i := 2) (v := ?_) rfl (by kernel_rfl) (by kernel_rfl) (by kernel_rfl) (fun _ _ _ h => h) (Or.inl ⟨by rfl, ?_⟩) hSw ?_
    rotate_left
    focus (intro w0 hS0; have k0 := (hS0.cell (p := ⟨bp, op, none⟩) hbp).trans a0; have k1 := (hS0.cell (p := ⟨bp, op + 1, none⟩) hbp).trans a1; have k2 := (hS0.cell (p := ⟨bp, op + 2, none⟩) hbp).trans a2; have k3 := (hS0.cell (p := ⟨bp, op + 2 + 1, none⟩) hbp).trans a3; have k4 := (hS0.cell (p := ⟨bp, op + 2 * 2, none⟩) hbp).trans a4; have k5 := (hS0.cell (p := ⟨bp, op + 2 * 2 + 1, none⟩) hbp).trans a5; clear hS0; go_simp; try with_reducible rfl)
    refine wpAnyH_take (i := 3) (v := ?_) rfl (by kernel_rfl) (by kernel_rfl) (by kernel_rfl) (fun _ _ _ h => h) (Or.inl ⟨by rfl, ?_⟩) hSw ?_
    rotate_left
    focus (intro w0 hS0; clear hS0; go_simp; try with_reducible rfl)
    refine wpAnyH_take (i := 4) (v := ?_) rfl (by kernel_rfl) (by kernel_rfl) (by kernel_rfl) (fun _ _ _ h => h) (Or.inl ⟨by rfl, ?_⟩) hSw ?_
    rotate_left
    focus (intro w0 hS0; clear hS0; go_simp; try with_reducible rfl)
    refine wpAnyH_take (i := 5) (v := ?_) rfl (by kernel_rfl) (by kernel_rfl) (by kernel_rfl) (fun _ _ _ h => h) (Or.inl ⟨by rfl, ?_⟩) hSw ?_
    rotate_left
    focus (intro w0 hS0; have k0 := (hS0.cell (p := ⟨bp, op, none⟩) hbp).trans a0; have k1 := (hS0.cell (p := ⟨bp, op + 1, none⟩) hbp).trans a1; have k2 := (hS0.cell (p := ⟨bp, op + 2, none⟩) hbp).trans a2; have k3 := (hS0.cell (p := ⟨bp, op + 2 + 1, none⟩) hbp).trans a3; have k4 := (hS0.cell (p := ⟨bp, op + 2 * 2, none⟩) hbp).trans a4; have k5 := (hS0.cell (p := ⟨bp, op + 2 * 2 + 1, none⟩) hbp).trans a5; clear hS0; go_simp; try with_reducible rfl)
    refine wpAnyH_ready (rs := [6, 7]) (by kernel_rfl) (by simp) (AllReadyH.cons rfl (fun K hK => ?_) (AllReadyH.cons rfl (fun K hK => ?_) (AllReadyH.nil)))
    focus
      go_simp
      (refine Calls.mono (HWa.out _) ?_; rintro e wpga ⟨rfl, hbX⟩;  replace hSw := belowTo hSw hbX; refine hK.out _ _ hSw (fun _ => ?_); clear hK K hbX)
      refine wpAnyH_ready (rs := [7]) (by kernel_rfl) (by simp) (AllReadyH.cons rfl (fun K hK => ?_) (AllReadyH.nil))
      go_simp
      (have hSa : Below w.heap.size w (wpga.alloc (.cells #[.int .i64 0, .int .i64 0] 31)) := hSw.alloc hSw.size _; have Bgay0 : (wpga.alloc (.cells #[.int .i64 0, .int .i64 0] 31)).cell? ⟨wpga.heap.size, 0, none⟩ = some (.int .i64 0) := (by simp); have Bgay1 : (wpga.alloc (.cells #[.int .i64 0, .int .i64 0] 31)).cell? ⟨wpga.heap.size, 1, none⟩ = some (.int .i64 0) := (by simp); have Bgayf : ∀ o, (wpga.alloc (.cells #[.int .i64 0, .int .i64 0] 31)).frozen? ⟨wpga.heap.size, o, none⟩ = false := (fun o => by simp); have Bgaya := hSw.size; replace hSw := hSa; clear hSa; refine hK.out _ _ hSw (fun _ => ?_); clear hK K; generalize wpga.alloc (.cells #[.int .i64 0, .int .i64 0] 31) = waga at *; generalize wpga.heap.size = Bga at *)
      refine wpAnyH_ready (rs := [8]) (by kernel_rfl) (by simp) (AllReadyH.cons rfl (fun K hK => ?_) (AllReadyH.nil))
      go_simp
      (have y0 := Bgayf 0; have y1 := Bgayf 1; have ga0 : ((waga.setCell ⟨Bga, 0, none⟩ (.int .i64 (ax))).setCell ⟨Bga, 1, none⟩ (.int .i64 (ay))).cell? ⟨Bga, 0, none⟩ = some (.int .i64 (ax)) := (by first | (go_cell; done) | (go_simp; done) | (simp; done)); have ga1 : ((waga.setCell ⟨Bga, 0, none⟩ (.int .i64 (ax))).setCell ⟨Bga, 1, none⟩ (.int .i64 (ay))).cell? ⟨Bga, 1, none⟩ = some (.int .i64 (ay)) := (by first | (go_cell; done) | (go_simp; done) | (simp; done)); have hSE : Below w.heap.size w ((waga.setCell ⟨Bga, 0, none⟩ (.int .i64 (ax))).setCell ⟨Bga, 1, none⟩ (.int .i64 (ay))) := (hSw.setCell (p := ⟨Bga, 0, none⟩) Bgaya _).setCell (p := ⟨Bga, 1, none⟩) Bgaya _; refine hK.out _ _ hSE (fun _ => ?_); clear hK K hSw Bgay0 Bgay1 Bgayf Bgaya y0 y1; generalize ((waga.setCell ⟨Bga, 0, none⟩ (.int .i64 (ax))).setCell ⟨Bga, 1, none⟩ (.int .i64 (ay))) = W2 at *)
      refine wpAnyH_done (by kernel_rfl) ?_ _
    rotate_left 1
    focus
      go_simp
      (have hSa : Below w.heap.size w (wd.alloc (.cells #[.int .i64 0, .int .i64 0] 31)) := hSw.alloc hSw.size _; have Bgay0 : (wd.alloc (.cells #[.int .i64 0, .int .i64 0] 31)).cell? ⟨wd.heap.size, 0, none⟩ = some (.int .i64 0) := (by simp); have Bgay1 : (wd.alloc (.cells #[.int .i64 0, .int .i64 0] 31)).cell? ⟨wd.heap.size, 1, none⟩ = some (.int .i64 0) := (by simp); have Bgayf : ∀ o, (wd.alloc (.cells #[.int .i64 0, .int .i64 0] 31)).frozen? ⟨wd.heap.size, o, none⟩ = false := (fun o => by simp); have Bgaya := hSw.size; replace hSw := hSa; clear hSa; refine hK.out _ _ hSw (fun _ => ?_); clear hK K; generalize wd.alloc (.cells #[.int .i64 0, .int .i64 0] 31) = waga at *; generalize wd.heap.size = Bga at *)
      refine wpAnyH_ready (rs := [6]) (by kernel_rfl) (by simp) (AllReadyH.cons rfl (fun K hK => ?_) (AllReadyH.nil))
      go_simp
      (refine Calls.mono (HWa.out _) ?_; rintro e wpga ⟨rfl, hbX⟩; replace Bgay1 := (hbX.cell (p := ⟨Bga, 1, none⟩) (cell_lt Bgay0)).trans Bgay1; replace Bgayf := (fun o => (hbX.frozen (p := ⟨Bga, o, none⟩) (cell_lt Bgay0)).trans (Bgayf o)); replace Bgay0 := (hbX.cell (p := ⟨Bga, 0, none⟩) (cell_lt Bgay0)).trans Bgay0; replace hSw := belowTo hSw hbX; refine hK.out _ _ hSw (fun _ => ?_); clear hK K hbX)
      refine wpAnyH_ready (rs := [8]) (by kernel_rfl) (by simp) (AllReadyH.cons rfl (fun K hK => ?_) (AllReadyH.nil))
      go_simp
      (have y0 := Bgayf 0; have y1 := Bgayf 1; have ga0 : ((wpga.setCell ⟨Bga, 0, none⟩ (.int .i64 (ax))).setCell ⟨Bga, 1, none⟩ (.int .i64 (ay))).cell? ⟨Bga, 0, none⟩ = some (.int .i64 (ax)) := (by first | (go_cell; done) | (go_simp; done) | (simp; done)); have ga1 : ((wpga.setCell ⟨Bga, 0, none⟩ (.int .i64 (ax))).setCell ⟨Bga, 1, none⟩ (.int .i64 (ay))).cell? ⟨Bga, 1, none⟩ = some (.int .i64 (ay)) := (by first | (go_cell; done) | (go_simp; done) | (simp; done)); have hSE : Below w.heap.size w ((wpga.setCell ⟨Bga, 0, none⟩ (.int .i64 (ax))).setCell ⟨Bga, 1, none⟩ (.int .i64 (ay))) := (hSw.setCell (p := ⟨Bga, 0, none⟩) Bgaya _).setCell (p := ⟨Bga, 1, none⟩) Bgaya _; refine hK.out _ _ hSE (fun _ => ?_); clear hK K hSw Bgay0 Bgay1 Bgayf Bgaya y0 y1; generalize ((wpga.setCell ⟨Bga, 0, none⟩ (.int .i64 (ax))).setCell ⟨Bga, 1, none⟩ (.int .i64 (ay))) = W2 at *)
      refine wpAnyH_done (by kernel_rfl) ?_ _
    all_goals
      have HSE := Lib.hid hSE
      clear hSE
      go_wp2_with fail
      go_meet
      case rel => exact ⟨_, rfl, ga0, ga1, HSE⟩
  case rest =>
  obtain ⟨Bga, rfl, ga0, ga1, HSE⟩ := hcut
  have hSE := HSE.out
  obtain ⟨W2, hWW⟩ : ∃ W9, W9 = wc := ⟨_, rfl⟩
  subst hWW
  replace a0 := (hSE.cell (p := ⟨bp, op, none⟩) hbp).trans a0
  replace a1 := (hSE.cell (p := ⟨bp, op + 1, none⟩) hbp).trans a1
  replace a2 := (hSE.cell (p := ⟨bp, op + 2, none⟩) hbp).trans a2
  replace a3 := (hSE.cell (p := ⟨bp, op + 2 + 1, none⟩) hbp).trans a3
  replace a4 := (hSE.cell (p := ⟨bp, op + 2 * 2, none⟩) hbp).trans a4
  replace a5 := (hSE.cell (p := ⟨bp, op + 2 * 2 + 1, none⟩) hbp).trans a5
  replace d0 := (hSE.cell (p := ⟨bq, oq + i * 2, none⟩) hbq).trans d0
  replace d1 := (hSE.cell (p := ⟨bq, oq + i * 2 + 1, none⟩) hbq).trans d1
  replace d2 := (hSE.cell (p := ⟨bq, oq + r * 2, none⟩) hbq).trans d2
  replace d3 := (hSE.cell (p := ⟨bq, oq + r * 2 + 1, none⟩) hbq).trans d3
  replace d4 := (hSE.cell (p := ⟨bq, oq + t * 2, none⟩) hbq).trans d4
  replace d5 := (hSE.cell (p := ⟨bq, oq + t * 2 + 1, none⟩) hbq).trans d5
  replace hbp := Nat.lt_of_lt_of_le hbp hSE.size
  replace hbq := Nat.lt_of_lt_of_le hbq hSE.size
  replace hB := belowTo hB hSE
  clear hSE HSE HWa
  go_upto_region 3 with fail
  go_cut [11] from 20 (fun s wx => ∃ B, s = .pointer (some ⟨B, 0, none⟩) ∧ wx.cell? ⟨B, 0, none⟩ = some (.int .i64 (bx)) ∧ wx.cell? ⟨B, 1, none⟩ = some (.int .i64 (by')) ∧ Hid (Below W2.heap.size W2 wx))
  case first =>
    refine wp_region_any (by kernel_rfl) ?_
    try (change wpAny _ _ _ _ _ _ _ (World.drew _))
    refine wpAny_of_held (S := fun w' => Below (W2.heap.size) W2 w') _ _ _ _ ?_
    have hSw : Below (W2.heap.size) W2 (World.drew W2) := by go_grown
    generalize World.drew W2 = wd at hSw ⊢
    refine wpAnyH_take (i := 0) (v := ?_) rfl (by kernel_rfl) (by kernel_rfl) (by kernel_rfl) (fun _ _ _ h => h) (Or.inl ⟨by rfl, ?_⟩) hSw ?_
    rotate_left
    focus (intro w0 hS0; clear hS0; go_simp; try with_reducible rfl)
    refine wpAnyH_take (i := 1) (v := ?_) rfl (by kernel_rfl) (by kernel_rfl) (by kernel_rfl) (fun _ _ _ h => h) (Or.inl ⟨by rfl, ?_⟩) hSw ?_
    rotate_left
    focus (intro w0 hS0; clear hS0; go_simp; try with_reducible rfl)
    refine wpAnyH_take (i := 2) (v := ?_) rfl (by kernel_rfl) (by kernel_rfl) (by kernel_rfl) (fun _ _ _ h => h) (Or.inl ⟨by rfl, ?_⟩) hSw ?_
    rotate_left
    focus (intro w0 hS0; have k0 := (hS0.cell (p := ⟨bp, op, none⟩) hbp).trans a0; have k1 := (hS0.cell (p := ⟨bp, op + 1, none⟩) hbp).trans a1; have k2 := (hS0.cell (p := ⟨bp, op + 2, none⟩) hbp).trans a2; have k3 := (hS0.cell (p := ⟨bp, op + 2 + 1, none⟩) hbp).trans a3; have k4 := (hS0.cell (p := ⟨bp, op + 2 * 2, none⟩) hbp).trans a4; have k5 := (hS0.cell (p := ⟨bp, op + 2 * 2 + 1, none⟩) hbp).trans a5; clear hS0; go_simp; try with_reducible rfl)
    refine wpAnyH_take (i := 3) (v := ?_) rfl (by kernel_rfl) (by kernel_rfl) (by kernel_rfl) (fun _ _ _ h => h) (Or.inl ⟨by rfl, ?_⟩) hSw ?_
    rotate_left
    focus (intro w0 hS0; clear hS0; go_simp; try with_reducible rfl)
    refine wpAnyH_take (i := 4) (v := ?_) rfl (by kernel_rfl) (by kernel_rfl) (by kernel_rfl) (fun _ _ _ h => h) (Or.inl ⟨by rfl, ?_⟩) hSw ?_
    rotate_left
    focus (intro w0 hS0; clear hS0; go_simp; try with_reducible rfl)
    refine wpAnyH_take (i := 5) (v := ?_) rfl (by kernel_rfl) (by kernel_rfl) (by kernel_rfl) (fun _ _ _ h => h) (Or.inl ⟨by rfl, ?_⟩) hSw ?_
    rotate_left
    focus (intro w0 hS0; have k0 := (hS0.cell (p := ⟨bp, op, none⟩) hbp).trans a0; have k1 := (hS0.cell (p := ⟨bp, op + 1, none⟩) hbp).trans a1; have k2 := (hS0.cell (p := ⟨bp, op + 2, none⟩) hbp).trans a2; have k3 := (hS0.cell (p := ⟨bp, op + 2 + 1, none⟩) hbp).trans a3; have k4 := (hS0.cell (p := ⟨bp, op + 2 * 2, none⟩) hbp).trans a4; have k5 := (hS0.cell (p := ⟨bp, op + 2 * 2 + 1, none⟩) hbp).trans a5; clear hS0; go_simp; try with_reducible rfl)
    refine wpAnyH_ready (rs := [6, 7]) (by kernel_rfl) (by simp) (AllReadyH.cons rfl (fun K hK => ?_) (AllReadyH.cons rfl (fun K hK => ?_) (AllReadyH.nil)))
    focus
      go_simp
      (refine Calls.mono (HWb.out _) ?_; rintro e wpgb ⟨rfl, hbX⟩;  replace hSw := belowTo hSw hbX; refine hK.out _ _ hSw (fun _ => ?_); clear hK K hbX)
      refine wpAnyH_ready (rs := [7]) (by kernel_rfl) (by simp) (AllReadyH.cons rfl (fun K hK => ?_) (AllReadyH.nil))
      go_simp
      (have hSa : Below W2.heap.size W2 (wpgb.alloc (.cells #[.int .i64 0, .int .i64 0] 31)) := hSw.alloc hSw.size _; have Bgby0 : (wpgb.alloc (.cells #[.int .i64 0, .int .i64 0] 31)).cell? ⟨wpgb.heap.size, 0, none⟩ = some (.int .i64 0) := (by simp); have Bgby1 : (wpgb.alloc (.cells #[.int .i64 0, .int .i64 0] 31)).cell? ⟨wpgb.heap.size, 1, none⟩ = some (.int .i64 0) := (by simp); have Bgbyf : ∀ o, (wpgb.alloc (.cells #[.int .i64 0, .int .i64 0] 31)).frozen? ⟨wpgb.heap.size, o, none⟩ = false := (fun o => by simp); have Bgbya := hSw.size; replace hSw := hSa; clear hSa; refine hK.out _ _ hSw (fun _ => ?_); clear hK K; generalize wpgb.alloc (.cells #[.int .i64 0, .int .i64 0] 31) = wagb at *; generalize wpgb.heap.size = Bgb at *)
      refine wpAnyH_ready (rs := [8]) (by kernel_rfl) (by simp) (AllReadyH.cons rfl (fun K hK => ?_) (AllReadyH.nil))
      go_simp
      (have y0 := Bgbyf 0; have y1 := Bgbyf 1; have gb0 : ((wagb.setCell ⟨Bgb, 0, none⟩ (.int .i64 (bx))).setCell ⟨Bgb, 1, none⟩ (.int .i64 (by'))).cell? ⟨Bgb, 0, none⟩ = some (.int .i64 (bx)) := (by first | (go_cell; done) | (go_simp; done) | (simp; done)); have gb1 : ((wagb.setCell ⟨Bgb, 0, none⟩ (.int .i64 (bx))).setCell ⟨Bgb, 1, none⟩ (.int .i64 (by'))).cell? ⟨Bgb, 1, none⟩ = some (.int .i64 (by')) := (by first | (go_cell; done) | (go_simp; done) | (simp; done)); have hSE : Below W2.heap.size W2 ((wagb.setCell ⟨Bgb, 0, none⟩ (.int .i64 (bx))).setCell ⟨Bgb, 1, none⟩ (.int .i64 (by'))) := (hSw.setCell (p := ⟨Bgb, 0, none⟩) Bgbya _).setCell (p := ⟨Bgb, 1, none⟩) Bgbya _; refine hK.out _ _ hSE (fun _ => ?_); clear hK K hSw Bgby0 Bgby1 Bgbyf Bgbya y0 y1; generalize ((wagb.setCell ⟨Bgb, 0, none⟩ (.int .i64 (bx))).setCell ⟨Bgb, 1, none⟩ (.int .i64 (by'))) = W3 at *)
      refine wpAnyH_done (by kernel_rfl) ?_ _
    rotate_left 1
    focus
      go_simp
      (have hSa : Below W2.heap.size W2 (wd.alloc (.cells #[.int .i64 0, .int .i64 0] 31)) := hSw.alloc hSw.size _; have Bgby0 : (wd.alloc (.cells #[.int .i64 0, .int .i64 0] 31)).cell? ⟨wd.heap.size, 0, none⟩ = some (.int .i64 0) := (by simp); have Bgby1 : (wd.alloc (.cells #[.int .i64 0, .int .i64 0] 31)).cell? ⟨wd.heap.size, 1, none⟩ = some (.int .i64 0) := (by simp); have Bgbyf : ∀ o, (wd.alloc (.cells #[.int .i64 0, .int .i64 0] 31)).frozen? ⟨wd.heap.size, o, none⟩ = false := (fun o => by simp); have Bgbya := hSw.size; replace hSw := hSa; clear hSa; refine hK.out _ _ hSw (fun _ => ?_); clear hK K; generalize wd.alloc (.cells #[.int .i64 0, .int .i64 0] 31) = wagb at *; generalize wd.heap.size = Bgb at *)
      refine wpAnyH_ready (rs := [6]) (by kernel_rfl) (by simp) (AllReadyH.cons rfl (fun K hK => ?_) (AllReadyH.nil))
      go_simp
      (refine Calls.mono (HWb.out _) ?_; rintro e wpgb ⟨rfl, hbX⟩; replace Bgby1 := (hbX.cell (p := ⟨Bgb, 1, none⟩) (cell_lt Bgby0)).trans Bgby1; replace Bgbyf := (fun o => (hbX.frozen (p := ⟨Bgb, o, none⟩) (cell_lt Bgby0)).trans (Bgbyf o)); replace Bgby0 := (hbX.cell (p := ⟨Bgb, 0, none⟩) (cell_lt Bgby0)).trans Bgby0; replace hSw := belowTo hSw hbX; refine hK.out _ _ hSw (fun _ => ?_); clear hK K hbX)
      refine wpAnyH_ready (rs := [8]) (by kernel_rfl) (by simp) (AllReadyH.cons rfl (fun K hK => ?_) (AllReadyH.nil))
      go_simp
      (have y0 := Bgbyf 0; have y1 := Bgbyf 1; have gb0 : ((wpgb.setCell ⟨Bgb, 0, none⟩ (.int .i64 (bx))).setCell ⟨Bgb, 1, none⟩ (.int .i64 (by'))).cell? ⟨Bgb, 0, none⟩ = some (.int .i64 (bx)) := (by first | (go_cell; done) | (go_simp; done) | (simp; done)); have gb1 : ((wpgb.setCell ⟨Bgb, 0, none⟩ (.int .i64 (bx))).setCell ⟨Bgb, 1, none⟩ (.int .i64 (by'))).cell? ⟨Bgb, 1, none⟩ = some (.int .i64 (by')) := (by first | (go_cell; done) | (go_simp; done) | (simp; done)); have hSE : Below W2.heap.size W2 ((wpgb.setCell ⟨Bgb, 0, none⟩ (.int .i64 (bx))).setCell ⟨Bgb, 1, none⟩ (.int .i64 (by'))) := (hSw.setCell (p := ⟨Bgb, 0, none⟩) Bgbya _).setCell (p := ⟨Bgb, 1, none⟩) Bgbya _; refine hK.out _ _ hSE (fun _ => ?_); clear hK K hSw Bgby0 Bgby1 Bgbyf Bgbya y0 y1; generalize ((wpgb.setCell ⟨Bgb, 0, none⟩ (.int .i64 (bx))).setCell ⟨Bgb, 1, none⟩ (.int .i64 (by'))) = W3 at *)
      refine wpAnyH_done (by kernel_rfl) ?_ _
    all_goals
      have HSE := Lib.hid hSE
      clear hSE
      go_wp2_with fail
      go_meet
      case rel => exact ⟨_, rfl, gb0, gb1, HSE⟩
  case rest =>
  obtain ⟨Bgb, rfl, gb0, gb1, HSE⟩ := hcut
  have hSE := HSE.out
  obtain ⟨W3, hWW⟩ : ∃ W9, W9 = wc := ⟨_, rfl⟩
  subst hWW
  replace a0 := (hSE.cell (p := ⟨bp, op, none⟩) hbp).trans a0
  replace a1 := (hSE.cell (p := ⟨bp, op + 1, none⟩) hbp).trans a1
  replace a2 := (hSE.cell (p := ⟨bp, op + 2, none⟩) hbp).trans a2
  replace a3 := (hSE.cell (p := ⟨bp, op + 2 + 1, none⟩) hbp).trans a3
  replace a4 := (hSE.cell (p := ⟨bp, op + 2 * 2, none⟩) hbp).trans a4
  replace a5 := (hSE.cell (p := ⟨bp, op + 2 * 2 + 1, none⟩) hbp).trans a5
  replace d0 := (hSE.cell (p := ⟨bq, oq + i * 2, none⟩) hbq).trans d0
  replace d1 := (hSE.cell (p := ⟨bq, oq + i * 2 + 1, none⟩) hbq).trans d1
  replace d2 := (hSE.cell (p := ⟨bq, oq + r * 2, none⟩) hbq).trans d2
  replace d3 := (hSE.cell (p := ⟨bq, oq + r * 2 + 1, none⟩) hbq).trans d3
  replace d4 := (hSE.cell (p := ⟨bq, oq + t * 2, none⟩) hbq).trans d4
  replace d5 := (hSE.cell (p := ⟨bq, oq + t * 2 + 1, none⟩) hbq).trans d5
  replace hbp := Nat.lt_of_lt_of_le hbp hSE.size
  replace hbq := Nat.lt_of_lt_of_le hbq hSE.size
  replace ga1 := (hSE.cell (p := ⟨Bga, 1, none⟩) (cell_lt ga0)).trans ga1
  replace ga0 := (hSE.cell (p := ⟨Bga, 0, none⟩) (cell_lt ga0)).trans ga0
  replace hB := belowTo hB hSE
  clear hSE HSE HWb
  go_upto_region 4 with fail
  go_cut [12] from 20 (fun s wx => ∃ B, s = .pointer (some ⟨B, 0, none⟩) ∧ wx.cell? ⟨B, 0, none⟩ = some (.int .i64 (cx)) ∧ wx.cell? ⟨B, 1, none⟩ = some (.int .i64 (cy)) ∧ Hid (Below W3.heap.size W3 wx))
  case first =>
    refine wp_region_any (by kernel_rfl) ?_
    try (change wpAny _ _ _ _ _ _ _ (World.drew _))
    refine wpAny_of_held (S := fun w' => Below (W3.heap.size) W3 w') _ _ _ _ ?_
    have hSw : Below (W3.heap.size) W3 (World.drew W3) := by go_grown
    generalize World.drew W3 = wd at hSw ⊢
    refine wpAnyH_take (i := 0) (v := ?_) rfl (by kernel_rfl) (by kernel_rfl) (by kernel_rfl) (fun _ _ _ h => h) (Or.inl ⟨by rfl, ?_⟩) hSw ?_
    rotate_left
    focus (intro w0 hS0; clear hS0; go_simp; try with_reducible rfl)
    refine wpAnyH_take (i := 1) (v := ?_) rfl (by kernel_rfl) (by kernel_rfl) (by kernel_rfl) (fun _ _ _ h => h) (Or.inl ⟨by rfl, ?_⟩) hSw ?_
    rotate_left
    focus (intro w0 hS0; clear hS0; go_simp; try with_reducible rfl)
    refine wpAnyH_take (i := 2) (v := ?_) rfl (by kernel_rfl) (by kernel_rfl) (by kernel_rfl) (fun _ _ _ h => h) (Or.inl ⟨by rfl, ?_⟩) hSw ?_
    rotate_left
    focus (intro w0 hS0; clear hS0; go_simp; try with_reducible rfl)
    refine wpAnyH_take (i := 3) (v := ?_) rfl (by kernel_rfl) (by kernel_rfl) (by kernel_rfl) (fun _ _ _ h => h) (Or.inl ⟨by rfl, ?_⟩) hSw ?_
    rotate_left
    focus (intro w0 hS0; have k0 := (hS0.cell (p := ⟨bq, oq + i * 2, none⟩) hbq).trans d0; have k1 := (hS0.cell (p := ⟨bq, oq + i * 2 + 1, none⟩) hbq).trans d1; have k2 := (hS0.cell (p := ⟨bq, oq + r * 2, none⟩) hbq).trans d2; have k3 := (hS0.cell (p := ⟨bq, oq + r * 2 + 1, none⟩) hbq).trans d3; have k4 := (hS0.cell (p := ⟨bq, oq + t * 2, none⟩) hbq).trans d4; have k5 := (hS0.cell (p := ⟨bq, oq + t * 2 + 1, none⟩) hbq).trans d5; clear hS0; go_simp; try with_reducible rfl)
    refine wpAnyH_take (i := 4) (v := ?_) rfl (by kernel_rfl) (by kernel_rfl) (by kernel_rfl) (fun _ _ _ h => h) (Or.inl ⟨by rfl, ?_⟩) hSw ?_
    rotate_left
    focus (intro w0 hS0; clear hS0; go_simp; try with_reducible rfl)
    refine wpAnyH_take (i := 5) (v := ?_) rfl (by kernel_rfl) (by kernel_rfl) (by kernel_rfl) (fun _ _ _ h => h) (Or.inl ⟨by rfl, ?_⟩) hSw ?_
    rotate_left
    focus (intro w0 hS0; clear hS0; go_simp; try with_reducible rfl)
    refine wpAnyH_take (i := 6) (v := ?_) rfl (by kernel_rfl) (by kernel_rfl) (by kernel_rfl) (fun _ _ _ h => h) (Or.inl ⟨by rfl, ?_⟩) hSw ?_
    rotate_left
    focus (intro w0 hS0; clear hS0; go_simp; try with_reducible rfl)
    refine wpAnyH_take (i := 7) (v := ?_) rfl (by kernel_rfl) (by kernel_rfl) (by kernel_rfl) (fun _ _ _ h => h) (Or.inl ⟨by rfl, ?_⟩) hSw ?_
    rotate_left
    focus (intro w0 hS0; clear hS0; go_simp; try with_reducible rfl)
    refine wpAnyH_take (i := 8) (v := ?_) rfl (by kernel_rfl) (by kernel_rfl) (by kernel_rfl) (fun _ _ _ h => h) (Or.inl ⟨by rfl, ?_⟩) hSw ?_
    rotate_left
    focus (intro w0 hS0; clear hS0; go_simp; try with_reducible rfl)
    refine wpAnyH_take (i := 9) (v := ?_) rfl (by kernel_rfl) (by kernel_rfl) (by kernel_rfl) (fun _ _ _ h => h) (Or.inl ⟨by rfl, ?_⟩) hSw ?_
    rotate_left
    focus (intro w0 hS0; clear hS0; go_simp; try with_reducible rfl)
    refine wpAnyH_take (i := 10) (v := ?_) rfl (by kernel_rfl) (by kernel_rfl) (by kernel_rfl) (fun _ _ _ h => h) (Or.inl ⟨by rfl, ?_⟩) hSw ?_
    rotate_left
    focus (intro w0 hS0; clear hS0; go_simp; try with_reducible rfl)
    refine wpAnyH_take (i := 11) (v := ?_) rfl (by kernel_rfl) (by kernel_rfl) (by kernel_rfl) (fun _ _ _ h => h) (Or.inl ⟨by rfl, ?_⟩) hSw ?_
    rotate_left
    focus (intro w0 hS0; have k0 := (hS0.cell (p := ⟨bq, oq + i * 2, none⟩) hbq).trans d0; have k1 := (hS0.cell (p := ⟨bq, oq + i * 2 + 1, none⟩) hbq).trans d1; have k2 := (hS0.cell (p := ⟨bq, oq + r * 2, none⟩) hbq).trans d2; have k3 := (hS0.cell (p := ⟨bq, oq + r * 2 + 1, none⟩) hbq).trans d3; have k4 := (hS0.cell (p := ⟨bq, oq + t * 2, none⟩) hbq).trans d4; have k5 := (hS0.cell (p := ⟨bq, oq + t * 2 + 1, none⟩) hbq).trans d5; clear hS0; go_simp; try with_reducible rfl)
    refine wpAnyH_ready (rs := [12, 13]) (by kernel_rfl) (by simp) (AllReadyH.cons rfl (fun K hK => ?_) (AllReadyH.cons rfl (fun K hK => ?_) (AllReadyH.nil)))
    focus
      go_simp
      (refine Calls.mono (HWc.out _) ?_; rintro e wpgc ⟨rfl, hbX⟩;  replace hSw := belowTo hSw hbX; refine hK.out _ _ hSw (fun _ => ?_); clear hK K hbX)
      refine wpAnyH_ready (rs := [13]) (by kernel_rfl) (by simp) (AllReadyH.cons rfl (fun K hK => ?_) (AllReadyH.nil))
      go_simp
      (have hSa : Below W3.heap.size W3 (wpgc.alloc (.cells #[.int .i64 0, .int .i64 0] 31)) := hSw.alloc hSw.size _; have Bgcy0 : (wpgc.alloc (.cells #[.int .i64 0, .int .i64 0] 31)).cell? ⟨wpgc.heap.size, 0, none⟩ = some (.int .i64 0) := (by simp); have Bgcy1 : (wpgc.alloc (.cells #[.int .i64 0, .int .i64 0] 31)).cell? ⟨wpgc.heap.size, 1, none⟩ = some (.int .i64 0) := (by simp); have Bgcyf : ∀ o, (wpgc.alloc (.cells #[.int .i64 0, .int .i64 0] 31)).frozen? ⟨wpgc.heap.size, o, none⟩ = false := (fun o => by simp); have Bgcya := hSw.size; replace hSw := hSa; clear hSa; refine hK.out _ _ hSw (fun _ => ?_); clear hK K; generalize wpgc.alloc (.cells #[.int .i64 0, .int .i64 0] 31) = wagc at *; generalize wpgc.heap.size = Bgc at *)
      refine wpAnyH_ready (rs := [14]) (by kernel_rfl) (by simp) (AllReadyH.cons rfl (fun K hK => ?_) (AllReadyH.nil))
      go_simp
      (have y0 := Bgcyf 0; have y1 := Bgcyf 1; have gc0 : ((wagc.setCell ⟨Bgc, 0, none⟩ (.int .i64 (cx))).setCell ⟨Bgc, 1, none⟩ (.int .i64 (cy))).cell? ⟨Bgc, 0, none⟩ = some (.int .i64 (cx)) := (by first | (go_cell; done) | (go_simp; done) | (simp; done)); have gc1 : ((wagc.setCell ⟨Bgc, 0, none⟩ (.int .i64 (cx))).setCell ⟨Bgc, 1, none⟩ (.int .i64 (cy))).cell? ⟨Bgc, 1, none⟩ = some (.int .i64 (cy)) := (by first | (go_cell; done) | (go_simp; done) | (simp; done)); have hSE : Below W3.heap.size W3 ((wagc.setCell ⟨Bgc, 0, none⟩ (.int .i64 (cx))).setCell ⟨Bgc, 1, none⟩ (.int .i64 (cy))) := (hSw.setCell (p := ⟨Bgc, 0, none⟩) Bgcya _).setCell (p := ⟨Bgc, 1, none⟩) Bgcya _; refine hK.out _ _ hSE (fun _ => ?_); clear hK K hSw Bgcy0 Bgcy1 Bgcyf Bgcya y0 y1; generalize ((wagc.setCell ⟨Bgc, 0, none⟩ (.int .i64 (cx))).setCell ⟨Bgc, 1, none⟩ (.int .i64 (cy))) = W4 at *)
      refine wpAnyH_done (by kernel_rfl) ?_ _
    rotate_left 1
    focus
      go_simp
      (have hSa : Below W3.heap.size W3 (wd.alloc (.cells #[.int .i64 0, .int .i64 0] 31)) := hSw.alloc hSw.size _; have Bgcy0 : (wd.alloc (.cells #[.int .i64 0, .int .i64 0] 31)).cell? ⟨wd.heap.size, 0, none⟩ = some (.int .i64 0) := (by simp); have Bgcy1 : (wd.alloc (.cells #[.int .i64 0, .int .i64 0] 31)).cell? ⟨wd.heap.size, 1, none⟩ = some (.int .i64 0) := (by simp); have Bgcyf : ∀ o, (wd.alloc (.cells #[.int .i64 0, .int .i64 0] 31)).frozen? ⟨wd.heap.size, o, none⟩ = false := (fun o => by simp); have Bgcya := hSw.size; replace hSw := hSa; clear hSa; refine hK.out _ _ hSw (fun _ => ?_); clear hK K; generalize wd.alloc (.cells #[.int .i64 0, .int .i64 0] 31) = wagc at *; generalize wd.heap.size = Bgc at *)
      refine wpAnyH_ready (rs := [12]) (by kernel_rfl) (by simp) (AllReadyH.cons rfl (fun K hK => ?_) (AllReadyH.nil))
      go_simp
      (refine Calls.mono (HWc.out _) ?_; rintro e wpgc ⟨rfl, hbX⟩; replace Bgcy1 := (hbX.cell (p := ⟨Bgc, 1, none⟩) (cell_lt Bgcy0)).trans Bgcy1; replace Bgcyf := (fun o => (hbX.frozen (p := ⟨Bgc, o, none⟩) (cell_lt Bgcy0)).trans (Bgcyf o)); replace Bgcy0 := (hbX.cell (p := ⟨Bgc, 0, none⟩) (cell_lt Bgcy0)).trans Bgcy0; replace hSw := belowTo hSw hbX; refine hK.out _ _ hSw (fun _ => ?_); clear hK K hbX)
      refine wpAnyH_ready (rs := [14]) (by kernel_rfl) (by simp) (AllReadyH.cons rfl (fun K hK => ?_) (AllReadyH.nil))
      go_simp
      (have y0 := Bgcyf 0; have y1 := Bgcyf 1; have gc0 : ((wpgc.setCell ⟨Bgc, 0, none⟩ (.int .i64 (cx))).setCell ⟨Bgc, 1, none⟩ (.int .i64 (cy))).cell? ⟨Bgc, 0, none⟩ = some (.int .i64 (cx)) := (by first | (go_cell; done) | (go_simp; done) | (simp; done)); have gc1 : ((wpgc.setCell ⟨Bgc, 0, none⟩ (.int .i64 (cx))).setCell ⟨Bgc, 1, none⟩ (.int .i64 (cy))).cell? ⟨Bgc, 1, none⟩ = some (.int .i64 (cy)) := (by first | (go_cell; done) | (go_simp; done) | (simp; done)); have hSE : Below W3.heap.size W3 ((wpgc.setCell ⟨Bgc, 0, none⟩ (.int .i64 (cx))).setCell ⟨Bgc, 1, none⟩ (.int .i64 (cy))) := (hSw.setCell (p := ⟨Bgc, 0, none⟩) Bgcya _).setCell (p := ⟨Bgc, 1, none⟩) Bgcya _; refine hK.out _ _ hSE (fun _ => ?_); clear hK K hSw Bgcy0 Bgcy1 Bgcyf Bgcya y0 y1; generalize ((wpgc.setCell ⟨Bgc, 0, none⟩ (.int .i64 (cx))).setCell ⟨Bgc, 1, none⟩ (.int .i64 (cy))) = W4 at *)
      refine wpAnyH_done (by kernel_rfl) ?_ _
    all_goals
      have HSE := Lib.hid hSE
      clear hSE
      go_wp2_with fail
      go_meet
      case rel => exact ⟨_, rfl, gc0, gc1, HSE⟩
  case rest =>
  obtain ⟨Bgc, rfl, gc0, gc1, HSE⟩ := hcut
  have hSE := HSE.out
  obtain ⟨W4, hWW⟩ : ∃ W9, W9 = wc := ⟨_, rfl⟩
  subst hWW
  replace a0 := (hSE.cell (p := ⟨bp, op, none⟩) hbp).trans a0
  replace a1 := (hSE.cell (p := ⟨bp, op + 1, none⟩) hbp).trans a1
  replace a2 := (hSE.cell (p := ⟨bp, op + 2, none⟩) hbp).trans a2
  replace a3 := (hSE.cell (p := ⟨bp, op + 2 + 1, none⟩) hbp).trans a3
  replace a4 := (hSE.cell (p := ⟨bp, op + 2 * 2, none⟩) hbp).trans a4
  replace a5 := (hSE.cell (p := ⟨bp, op + 2 * 2 + 1, none⟩) hbp).trans a5
  replace d0 := (hSE.cell (p := ⟨bq, oq + i * 2, none⟩) hbq).trans d0
  replace d1 := (hSE.cell (p := ⟨bq, oq + i * 2 + 1, none⟩) hbq).trans d1
  replace d2 := (hSE.cell (p := ⟨bq, oq + r * 2, none⟩) hbq).trans d2
  replace d3 := (hSE.cell (p := ⟨bq, oq + r * 2 + 1, none⟩) hbq).trans d3
  replace d4 := (hSE.cell (p := ⟨bq, oq + t * 2, none⟩) hbq).trans d4
  replace d5 := (hSE.cell (p := ⟨bq, oq + t * 2 + 1, none⟩) hbq).trans d5
  replace hbp := Nat.lt_of_lt_of_le hbp hSE.size
  replace hbq := Nat.lt_of_lt_of_le hbq hSE.size
  replace ga1 := (hSE.cell (p := ⟨Bga, 1, none⟩) (cell_lt ga0)).trans ga1
  replace ga0 := (hSE.cell (p := ⟨Bga, 0, none⟩) (cell_lt ga0)).trans ga0
  replace gb1 := (hSE.cell (p := ⟨Bgb, 1, none⟩) (cell_lt gb0)).trans gb1
  replace gb0 := (hSE.cell (p := ⟨Bgb, 0, none⟩) (cell_lt gb0)).trans gb0
  replace hB := belowTo hB hSE
  clear hSE HSE HWc
  go_upto_region 5 with fail
  go_cut [13] from 20 (fun s wx => ∃ B, s = .pointer (some ⟨B, 0, none⟩) ∧ wx.cell? ⟨B, 0, none⟩ = some (.int .i64 (ex)) ∧ wx.cell? ⟨B, 1, none⟩ = some (.int .i64 (ey)) ∧ Hid (Below W4.heap.size W4 wx))
  case first =>
    refine wp_region_any (by kernel_rfl) ?_
    try (change wpAny _ _ _ _ _ _ _ (World.drew _))
    refine wpAny_of_held (S := fun w' => Below (W4.heap.size) W4 w') _ _ _ _ ?_
    have hSw : Below (W4.heap.size) W4 (World.drew W4) := by go_grown
    generalize World.drew W4 = wd at hSw ⊢
    refine wpAnyH_take (i := 0) (v := ?_) rfl (by kernel_rfl) (by kernel_rfl) (by kernel_rfl) (fun _ _ _ h => h) (Or.inl ⟨by rfl, ?_⟩) hSw ?_
    rotate_left
    focus (intro w0 hS0; clear hS0; go_simp; try with_reducible rfl)
    refine wpAnyH_take (i := 1) (v := ?_) rfl (by kernel_rfl) (by kernel_rfl) (by kernel_rfl) (fun _ _ _ h => h) (Or.inl ⟨by rfl, ?_⟩) hSw ?_
    rotate_left
    focus (intro w0 hS0; clear hS0; go_simp; try with_reducible rfl)
    refine wpAnyH_take (i := 2) (v := ?_) rfl (by kernel_rfl) (by kernel_rfl) (by kernel_rfl) (fun _ _ _ h => h) (Or.inl ⟨by rfl, ?_⟩) hSw ?_
    rotate_left
    focus (intro w0 hS0; clear hS0; go_simp; try with_reducible rfl)
    refine wpAnyH_take (i := 3) (v := ?_) rfl (by kernel_rfl) (by kernel_rfl) (by kernel_rfl) (fun _ _ _ h => h) (Or.inl ⟨by rfl, ?_⟩) hSw ?_
    rotate_left
    focus (intro w0 hS0; clear hS0; go_simp; try with_reducible rfl)
    refine wpAnyH_take (i := 4) (v := ?_) rfl (by kernel_rfl) (by kernel_rfl) (by kernel_rfl) (fun _ _ _ h => h) (Or.inl ⟨by rfl, ?_⟩) hSw ?_
    rotate_left
    focus (intro w0 hS0; clear hS0; go_simp; try with_reducible rfl)
    refine wpAnyH_take (i := 5) (v := ?_) rfl (by kernel_rfl) (by kernel_rfl) (by kernel_rfl) (fun _ _ _ h => h) (Or.inl ⟨by rfl, ?_⟩) hSw ?_
    rotate_left
    focus (intro w0 hS0; clear hS0; go_simp; try with_reducible rfl)
    refine wpAnyH_take (i := 6) (v := ?_) rfl (by kernel_rfl) (by kernel_rfl) (by kernel_rfl) (fun _ _ _ h => h) (Or.inl ⟨by rfl, ?_⟩) hSw ?_
    rotate_left
    focus (intro w0 hS0; clear hS0; go_simp; try with_reducible rfl)
    refine wpAnyH_take (i := 7) (v := ?_) rfl (by kernel_rfl) (by kernel_rfl) (by kernel_rfl) (fun _ _ _ h => h) (Or.inl ⟨by rfl, ?_⟩) hSw ?_
    rotate_left
    focus (intro w0 hS0; have k0 := (hS0.cell (p := ⟨bq, oq + i * 2, none⟩) hbq).trans d0; have k1 := (hS0.cell (p := ⟨bq, oq + i * 2 + 1, none⟩) hbq).trans d1; have k2 := (hS0.cell (p := ⟨bq, oq + r * 2, none⟩) hbq).trans d2; have k3 := (hS0.cell (p := ⟨bq, oq + r * 2 + 1, none⟩) hbq).trans d3; have k4 := (hS0.cell (p := ⟨bq, oq + t * 2, none⟩) hbq).trans d4; have k5 := (hS0.cell (p := ⟨bq, oq + t * 2 + 1, none⟩) hbq).trans d5; clear hS0; go_simp; try with_reducible rfl)
    refine wpAnyH_take (i := 8) (v := ?_) rfl (by kernel_rfl) (by kernel_rfl) (by kernel_rfl) (fun _ _ _ h => h) (Or.inl ⟨by rfl, ?_⟩) hSw ?_
    rotate_left
    focus (intro w0 hS0; clear hS0; go_simp; try with_reducible rfl)
    refine wpAnyH_take (i := 9) (v := ?_) rfl (by kernel_rfl) (by kernel_rfl) (by kernel_rfl) (fun _ _ _ h => h) (Or.inl ⟨by rfl, ?_⟩) hSw ?_
    rotate_left
    focus (intro w0 hS0; clear hS0; go_simp; try with_reducible rfl)
    refine wpAnyH_take (i := 10) (v := ?_) rfl (by kernel_rfl) (by kernel_rfl) (by kernel_rfl) (fun _ _ _ h => h) (Or.inl ⟨by rfl, ?_⟩) hSw ?_
    rotate_left
    focus (intro w0 hS0; clear hS0; go_simp; try with_reducible rfl)
    refine wpAnyH_take (i := 11) (v := ?_) rfl (by kernel_rfl) (by kernel_rfl) (by kernel_rfl) (fun _ _ _ h => h) (Or.inl ⟨by rfl, ?_⟩) hSw ?_
    rotate_left
    focus (intro w0 hS0; clear hS0; go_simp; try with_reducible rfl)
    refine wpAnyH_take (i := 12) (v := ?_) rfl (by kernel_rfl) (by kernel_rfl) (by kernel_rfl) (fun _ _ _ h => h) (Or.inl ⟨by rfl, ?_⟩) hSw ?_
    rotate_left
    focus (intro w0 hS0; clear hS0; go_simp; try with_reducible rfl)
    refine wpAnyH_take (i := 13) (v := ?_) rfl (by kernel_rfl) (by kernel_rfl) (by kernel_rfl) (fun _ _ _ h => h) (Or.inl ⟨by rfl, ?_⟩) hSw ?_
    rotate_left
    focus (intro w0 hS0; clear hS0; go_simp; try with_reducible rfl)
    refine wpAnyH_take (i := 14) (v := ?_) rfl (by kernel_rfl) (by kernel_rfl) (by kernel_rfl) (fun _ _ _ h => h) (Or.inl ⟨by rfl, ?_⟩) hSw ?_
    rotate_left
    focus (intro w0 hS0; clear hS0; go_simp; try with_reducible rfl)
    refine wpAnyH_take (i := 15) (v := ?_) rfl (by kernel_rfl) (by kernel_rfl) (by kernel_rfl) (fun _ _ _ h => h) (Or.inl ⟨by rfl, ?_⟩) hSw ?_
    rotate_left
    focus (intro w0 hS0; clear hS0; go_simp; try with_reducible rfl)
    refine wpAnyH_take (i := 16) (v := ?_) rfl (by kernel_rfl) (by kernel_rfl) (by kernel_rfl) (fun _ _ _ h => h) (Or.inl ⟨by rfl, ?_⟩) hSw ?_
    rotate_left
    focus (intro w0 hS0; have k0 := (hS0.cell (p := ⟨bq, oq + i * 2, none⟩) hbq).trans d0; have k1 := (hS0.cell (p := ⟨bq, oq + i * 2 + 1, none⟩) hbq).trans d1; have k2 := (hS0.cell (p := ⟨bq, oq + r * 2, none⟩) hbq).trans d2; have k3 := (hS0.cell (p := ⟨bq, oq + r * 2 + 1, none⟩) hbq).trans d3; have k4 := (hS0.cell (p := ⟨bq, oq + t * 2, none⟩) hbq).trans d4; have k5 := (hS0.cell (p := ⟨bq, oq + t * 2 + 1, none⟩) hbq).trans d5; clear hS0; go_simp; try with_reducible rfl)
    refine wpAnyH_ready (rs := [17, 18]) (by kernel_rfl) (by simp) (AllReadyH.cons rfl (fun K hK => ?_) (AllReadyH.cons rfl (fun K hK => ?_) (AllReadyH.nil)))
    focus
      go_simp
      (refine Calls.mono (HWe.out _) ?_; rintro e wpge ⟨rfl, hbX⟩;  replace hSw := belowTo hSw hbX; refine hK.out _ _ hSw (fun _ => ?_); clear hK K hbX)
      refine wpAnyH_ready (rs := [18]) (by kernel_rfl) (by simp) (AllReadyH.cons rfl (fun K hK => ?_) (AllReadyH.nil))
      go_simp
      (have hSa : Below W4.heap.size W4 (wpge.alloc (.cells #[.int .i64 0, .int .i64 0] 31)) := hSw.alloc hSw.size _; have Bgey0 : (wpge.alloc (.cells #[.int .i64 0, .int .i64 0] 31)).cell? ⟨wpge.heap.size, 0, none⟩ = some (.int .i64 0) := (by simp); have Bgey1 : (wpge.alloc (.cells #[.int .i64 0, .int .i64 0] 31)).cell? ⟨wpge.heap.size, 1, none⟩ = some (.int .i64 0) := (by simp); have Bgeyf : ∀ o, (wpge.alloc (.cells #[.int .i64 0, .int .i64 0] 31)).frozen? ⟨wpge.heap.size, o, none⟩ = false := (fun o => by simp); have Bgeya := hSw.size; replace hSw := hSa; clear hSa; refine hK.out _ _ hSw (fun _ => ?_); clear hK K; generalize wpge.alloc (.cells #[.int .i64 0, .int .i64 0] 31) = wage at *; generalize wpge.heap.size = Bge at *)
      refine wpAnyH_ready (rs := [19]) (by kernel_rfl) (by simp) (AllReadyH.cons rfl (fun K hK => ?_) (AllReadyH.nil))
      go_simp
      (have y0 := Bgeyf 0; have y1 := Bgeyf 1; have ge0 : ((wage.setCell ⟨Bge, 0, none⟩ (.int .i64 (ex))).setCell ⟨Bge, 1, none⟩ (.int .i64 (ey))).cell? ⟨Bge, 0, none⟩ = some (.int .i64 (ex)) := (by first | (go_cell; done) | (go_simp; done) | (simp; done)); have ge1 : ((wage.setCell ⟨Bge, 0, none⟩ (.int .i64 (ex))).setCell ⟨Bge, 1, none⟩ (.int .i64 (ey))).cell? ⟨Bge, 1, none⟩ = some (.int .i64 (ey)) := (by first | (go_cell; done) | (go_simp; done) | (simp; done)); have hSE : Below W4.heap.size W4 ((wage.setCell ⟨Bge, 0, none⟩ (.int .i64 (ex))).setCell ⟨Bge, 1, none⟩ (.int .i64 (ey))) := (hSw.setCell (p := ⟨Bge, 0, none⟩) Bgeya _).setCell (p := ⟨Bge, 1, none⟩) Bgeya _; refine hK.out _ _ hSE (fun _ => ?_); clear hK K hSw Bgey0 Bgey1 Bgeyf Bgeya y0 y1; generalize ((wage.setCell ⟨Bge, 0, none⟩ (.int .i64 (ex))).setCell ⟨Bge, 1, none⟩ (.int .i64 (ey))) = W5 at *)
      refine wpAnyH_done (by kernel_rfl) ?_ _
    rotate_left 1
    focus
      go_simp
      (have hSa : Below W4.heap.size W4 (wd.alloc (.cells #[.int .i64 0, .int .i64 0] 31)) := hSw.alloc hSw.size _; have Bgey0 : (wd.alloc (.cells #[.int .i64 0, .int .i64 0] 31)).cell? ⟨wd.heap.size, 0, none⟩ = some (.int .i64 0) := (by simp); have Bgey1 : (wd.alloc (.cells #[.int .i64 0, .int .i64 0] 31)).cell? ⟨wd.heap.size, 1, none⟩ = some (.int .i64 0) := (by simp); have Bgeyf : ∀ o, (wd.alloc (.cells #[.int .i64 0, .int .i64 0] 31)).frozen? ⟨wd.heap.size, o, none⟩ = false := (fun o => by simp); have Bgeya := hSw.size; replace hSw := hSa; clear hSa; refine hK.out _ _ hSw (fun _ => ?_); clear hK K; generalize wd.alloc (.cells #[.int .i64 0, .int .i64 0] 31) = wage at *; generalize wd.heap.size = Bge at *)
      refine wpAnyH_ready (rs := [17]) (by kernel_rfl) (by simp) (AllReadyH.cons rfl (fun K hK => ?_) (AllReadyH.nil))
      go_simp
      (refine Calls.mono (HWe.out _) ?_; rintro e wpge ⟨rfl, hbX⟩; replace Bgey1 := (hbX.cell (p := ⟨Bge, 1, none⟩) (cell_lt Bgey0)).trans Bgey1; replace Bgeyf := (fun o => (hbX.frozen (p := ⟨Bge, o, none⟩) (cell_lt Bgey0)).trans (Bgeyf o)); replace Bgey0 := (hbX.cell (p := ⟨Bge, 0, none⟩) (cell_lt Bgey0)).trans Bgey0; replace hSw := belowTo hSw hbX; refine hK.out _ _ hSw (fun _ => ?_); clear hK K hbX)
      refine wpAnyH_ready (rs := [19]) (by kernel_rfl) (by simp) (AllReadyH.cons rfl (fun K hK => ?_) (AllReadyH.nil))
      go_simp
      (have y0 := Bgeyf 0; have y1 := Bgeyf 1; have ge0 : ((wpge.setCell ⟨Bge, 0, none⟩ (.int .i64 (ex))).setCell ⟨Bge, 1, none⟩ (.int .i64 (ey))).cell? ⟨Bge, 0, none⟩ = some (.int .i64 (ex)) := (by first | (go_cell; done) | (go_simp; done) | (simp; done)); have ge1 : ((wpge.setCell ⟨Bge, 0, none⟩ (.int .i64 (ex))).setCell ⟨Bge, 1, none⟩ (.int .i64 (ey))).cell? ⟨Bge, 1, none⟩ = some (.int .i64 (ey)) := (by first | (go_cell; done) | (go_simp; done) | (simp; done)); have hSE : Below W4.heap.size W4 ((wpge.setCell ⟨Bge, 0, none⟩ (.int .i64 (ex))).setCell ⟨Bge, 1, none⟩ (.int .i64 (ey))) := (hSw.setCell (p := ⟨Bge, 0, none⟩) Bgeya _).setCell (p := ⟨Bge, 1, none⟩) Bgeya _; refine hK.out _ _ hSE (fun _ => ?_); clear hK K hSw Bgey0 Bgey1 Bgeyf Bgeya y0 y1; generalize ((wpge.setCell ⟨Bge, 0, none⟩ (.int .i64 (ex))).setCell ⟨Bge, 1, none⟩ (.int .i64 (ey))) = W5 at *)
      refine wpAnyH_done (by kernel_rfl) ?_ _
    all_goals
      have HSE := Lib.hid hSE
      clear hSE
      go_wp2_with fail
      go_meet
      case rel => exact ⟨_, rfl, ge0, ge1, HSE⟩
  case rest =>
  obtain ⟨Bge, rfl, ge0, ge1, HSE⟩ := hcut
  have hSE := HSE.out
  obtain ⟨W5, hWW⟩ : ∃ W9, W9 = wc := ⟨_, rfl⟩
  subst hWW
  replace a0 := (hSE.cell (p := ⟨bp, op, none⟩) hbp).trans a0
  replace a1 := (hSE.cell (p := ⟨bp, op + 1, none⟩) hbp).trans a1
  replace a2 := (hSE.cell (p := ⟨bp, op + 2, none⟩) hbp).trans a2
  replace a3 := (hSE.cell (p := ⟨bp, op + 2 + 1, none⟩) hbp).trans a3
  replace a4 := (hSE.cell (p := ⟨bp, op + 2 * 2, none⟩) hbp).trans a4
  replace a5 := (hSE.cell (p := ⟨bp, op + 2 * 2 + 1, none⟩) hbp).trans a5
  replace d0 := (hSE.cell (p := ⟨bq, oq + i * 2, none⟩) hbq).trans d0
  replace d1 := (hSE.cell (p := ⟨bq, oq + i * 2 + 1, none⟩) hbq).trans d1
  replace d2 := (hSE.cell (p := ⟨bq, oq + r * 2, none⟩) hbq).trans d2
  replace d3 := (hSE.cell (p := ⟨bq, oq + r * 2 + 1, none⟩) hbq).trans d3
  replace d4 := (hSE.cell (p := ⟨bq, oq + t * 2, none⟩) hbq).trans d4
  replace d5 := (hSE.cell (p := ⟨bq, oq + t * 2 + 1, none⟩) hbq).trans d5
  replace hbp := Nat.lt_of_lt_of_le hbp hSE.size
  replace hbq := Nat.lt_of_lt_of_le hbq hSE.size
  replace ga1 := (hSE.cell (p := ⟨Bga, 1, none⟩) (cell_lt ga0)).trans ga1
  replace ga0 := (hSE.cell (p := ⟨Bga, 0, none⟩) (cell_lt ga0)).trans ga0
  replace gb1 := (hSE.cell (p := ⟨Bgb, 1, none⟩) (cell_lt gb0)).trans gb1
  replace gb0 := (hSE.cell (p := ⟨Bgb, 0, none⟩) (cell_lt gb0)).trans gb0
  replace gc1 := (hSE.cell (p := ⟨Bgc, 1, none⟩) (cell_lt gc0)).trans gc1
  replace gc0 := (hSE.cell (p := ⟨Bgc, 0, none⟩) (cell_lt gc0)).trans gc0
  replace hB := belowTo hB hSE
  clear hSE HSE HWe a0 a1 a2 a3 a4 a5 d0 d1 d2 d3 d4 d5
  go_wp2_with fail
  refine Calls.mono (HDt.out _) ?_
  rintro e w6 ⟨rfl, hb6⟩
  replace ga1 := (hb6.cell (p := ⟨Bga, 1, none⟩) (cell_lt ga0)).trans ga1
  replace ga0 := (hb6.cell (p := ⟨Bga, 0, none⟩) (cell_lt ga0)).trans ga0
  replace gb1 := (hb6.cell (p := ⟨Bgb, 1, none⟩) (cell_lt gb0)).trans gb1
  replace gb0 := (hb6.cell (p := ⟨Bgb, 0, none⟩) (cell_lt gb0)).trans gb0
  replace gc1 := (hb6.cell (p := ⟨Bgc, 1, none⟩) (cell_lt gc0)).trans gc1
  replace gc0 := (hb6.cell (p := ⟨Bgc, 0, none⟩) (cell_lt gc0)).trans gc0
  replace ge1 := (hb6.cell (p := ⟨Bge, 1, none⟩) (cell_lt ge0)).trans ge1
  replace ge0 := (hb6.cell (p := ⟨Bge, 0, none⟩) (cell_lt ge0)).trans ge0
  replace hB := belowTo hB hb6
  clear hb6 HDt
  have HFit2 := Lib.hid HFit.out
  unfold dvB mtw M4.ok nmA nmB nmC nmD at HFit2
  rw [show detV (ax, ay) (bx, by') = detZ ax ay bx by' from rfl] at HFit2 HD0
  dsimp only at HFit2
  clear HFit
  obtain ⟨⟨⟨_, _⟩, ⟨_, _⟩⟩, ⟨⟨_, _⟩, ⟨_, _⟩⟩, ⟨⟨_, _⟩, ⟨_, _⟩⟩, ⟨_, _⟩, ⟨_, _⟩⟩ := HM8.out
  have s1 : -80000 ≤ cx * by' - ex * ay ∧ cx * by' - ex * ay ≤ 80000 := by omega
  have s2 : -80000 ≤ ex * ax - cx * bx ∧ ex * ax - cx * bx ≤ 80000 := by omega
  have s3 : -80000 ≤ cy * by' - ey * ay ∧ cy * by' - ey * ay ≤ 80000 := by omega
  have s4 : -80000 ≤ ey * ax - cy * bx ∧ ey * ax - cy * bx ≤ 80000 := by omega
  have HS := Lib.hid (And.intro s1 (And.intro s2 (And.intro s3 s4)))
  obtain ⟨_, _⟩ := s1
  obtain ⟨_, _⟩ := s2
  obtain ⟨_, _⟩ := s3
  obtain ⟨_, _⟩ := s4
  clear HM8
  generalize detZ ax ay bx by' = D at *
  go_upto_region 8 with fail
  have hs6 := hB.size
  have hA7 : Below w6.heap.size w6 (w6.alloc (.cells #[.int .i64 (cx * by' - ex * ay), .int .i64 (ex * ax - cx * bx), .int .i64 (cy * by' - ey * ay), .int .i64 (ey * ax - cy * bx)] 94)) := by go_grown
  have mc0 : (w6.alloc (.cells #[.int .i64 (cx * by' - ex * ay), .int .i64 (ex * ax - cx * bx), .int .i64 (cy * by' - ey * ay), .int .i64 (ey * ax - cy * bx)] 94)).cell? ⟨w6.heap.size, 0, none⟩ = some (.int .i64 (cx * by' - ex * ay)) := by simp
  have mc1 : (w6.alloc (.cells #[.int .i64 (cx * by' - ex * ay), .int .i64 (ex * ax - cx * bx), .int .i64 (cy * by' - ey * ay), .int .i64 (ey * ax - cy * bx)] 94)).cell? ⟨w6.heap.size, 1, none⟩ = some (.int .i64 (ex * ax - cx * bx)) := by simp
  have mc2 : (w6.alloc (.cells #[.int .i64 (cx * by' - ex * ay), .int .i64 (ex * ax - cx * bx), .int .i64 (cy * by' - ey * ay), .int .i64 (ey * ax - cy * bx)] 94)).cell? ⟨w6.heap.size, 2, none⟩ = some (.int .i64 (cy * by' - ey * ay)) := by simp
  have mc3 : (w6.alloc (.cells #[.int .i64 (cx * by' - ex * ay), .int .i64 (ex * ax - cx * bx), .int .i64 (cy * by' - ey * ay), .int .i64 (ey * ax - cy * bx)] 94)).cell? ⟨w6.heap.size, 3, none⟩ = some (.int .i64 (ey * ax - cy * bx)) := by simp
  have hB7 := hB.trans (hA7.mono hs6)
  clear hB hA7 ga0 ga1 gb0 gb1 gc0 gc1 ge0 ge1
  generalize (w6.alloc (.cells #[.int .i64 (cx * by' - ex * ay), .int .i64 (ex * ax - cx * bx), .int .i64 (cy * by' - ey * ay), .int .i64 (ey * ax - cy * bx)] 94)) = W7 at *
  generalize w6.heap.size = Bm at *
  generalize cx * by' - ex * ay = X1 at *
  generalize ex * ax - cx * bx = X2 at *
  generalize cy * by' - ey * ay = X3 at *
  generalize ey * ax - cy * bx = X4 at *
  have D1 : ¬ D = 0 := by have := HD0.out; omega
  have D2 : (D == 0) = false := by simpa using D1
  have HD1 := Lib.hid HD0.out
  clear HD0
  by_cases g1 : X1.tmod D = 0
  · by_cases g2 : X2.tmod D = 0
    · by_cases g3 : X3.tmod D = 0
      · by_cases g4 : X4.tmod D = 0
        · have HF3 : Hid (R = (matB (X1.tdiv D) (X2.tdiv D) (X3.tdiv D) (X4.tdiv D) && allMv ⟨X1.tdiv D, X2.tdiv D, X3.tdiv D, X4.tdiv D⟩ (wayZ p) (stpQ q i s) n)) := by
            have := HFit2.out
            rw [g1, g2, g3, g4] at this
            exact this
          clear HFit2
          have QA : IntKind.i64.wrap (X1.tdiv D) = X1.tdiv D := by rw [IntKind.wrap_i64]; have := tdivS_small (d := D) HS.out.1; omega
          have QB : IntKind.i64.wrap (X2.tdiv D) = X2.tdiv D := by rw [IntKind.wrap_i64]; have := tdivS_small (d := D) HS.out.2.1; omega
          have QC : IntKind.i64.wrap (X3.tdiv D) = X3.tdiv D := by rw [IntKind.wrap_i64]; have := tdivS_small (d := D) HS.out.2.2.1; omega
          have QE : IntKind.i64.wrap (X4.tdiv D) = X4.tdiv D := by rw [IntKind.wrap_i64]; have := tdivS_small (d := D) HS.out.2.2.2; omega
          obtain ⟨A, hA⟩ : ∃ A, A = X1.tdiv D := ⟨_, rfl⟩
          obtain ⟨B, hBe⟩ : ∃ A, A = X2.tdiv D := ⟨_, rfl⟩
          obtain ⟨C, hC⟩ : ∃ A, A = X3.tdiv D := ⟨_, rfl⟩
          obtain ⟨E, hE⟩ : ∃ A, A = X4.tdiv D := ⟨_, rfl⟩
          rw [← hA] at QA HF3
          rw [← hBe] at QB HF3
          rw [← hC] at QC HF3
          rw [← hE] at QE HF3
          replace hA := hA.symm
          replace hBe := hBe.symm
          replace hC := hC.symm
          replace hE := hE.symm
          go_wp2
          refine wp_loop_rounds 5 ?_
          rw [rounds_succ]
          go_wp2
          rw [rounds_succ]
          go_wp2
          rw [rounds_succ]
          go_wp2
          rw [rounds_succ]
          go_wp2
          rw [rounds_succ]
          go_wp2_with fail
          refine wp_region_any (by kernel_rfl) ?_
          try (change wpAny _ _ _ _ _ _ _ (World.drew _))
          refine wpAny_of_held (S := fun w' => Below (W7.heap.size) W7 w') _ _ _ _ ?_
          have hSw : Below (W7.heap.size) W7 (World.drew W7) := by go_grown
          generalize World.drew W7 = wd at hSw ⊢
          refine wpAnyH_take (i := 0) (v := ?_) rfl (by kernel_rfl) (by kernel_rfl) (by kernel_rfl) (fun _ _ _ h => h) (Or.inl ⟨by rfl, ?_⟩) hSw ?_
          rotate_left
          focus (intro w0 hS0; clear hS0; go_simp; try with_reducible rfl)
          refine wpAnyH_take (i := 1) (v := ?_) rfl (by kernel_rfl) (by kernel_rfl) (by kernel_rfl) (fun _ _ _ h => h) (Or.inl ⟨by rfl, ?_⟩) hSw ?_
          rotate_left
          focus (intro w0 hS0; have k0 := (hS0.cell (p := ⟨Bm, 0, none⟩) (cell_lt mc0)).trans mc0; have k1 := (hS0.cell (p := ⟨Bm, 1, none⟩) (cell_lt mc0)).trans mc1; have k2 := (hS0.cell (p := ⟨Bm, 2, none⟩) (cell_lt mc0)).trans mc2; have k3 := (hS0.cell (p := ⟨Bm, 3, none⟩) (cell_lt mc0)).trans mc3; clear hS0; go_simp; try with_reducible rfl)
          refine wpAnyH_take (i := 2) (v := ?_) rfl (by kernel_rfl) (by kernel_rfl) (by kernel_rfl) (fun _ _ _ h => h) (Or.inl ⟨by rfl, ?_⟩) hSw ?_
          rotate_left
          focus (intro w0 hS0; clear hS0; go_simp; try with_reducible rfl)
          refine wpAnyH_take (i := 3) (v := ?_) rfl (by kernel_rfl) (by kernel_rfl) (by kernel_rfl) (fun _ _ _ h => h) (Or.inl ⟨by rfl, ?_⟩) hSw ?_
          rotate_left
          focus (intro w0 hS0; clear hS0; go_simp; try with_reducible rfl)
          refine wpAnyH_take (i := 4) (v := ?_) rfl (by kernel_rfl) (by kernel_rfl) (by kernel_rfl) (fun _ _ _ h => h) (Or.inl ⟨by rfl, ?_⟩) hSw ?_
          rotate_left
          focus (intro w0 hS0; clear hS0; go_simp; try with_reducible rfl)
          refine wpAnyH_take (i := 5) (v := ?_) rfl (by kernel_rfl) (by kernel_rfl) (by kernel_rfl) (fun _ _ _ h => h) (Or.inl ⟨by rfl, ?_⟩) hSw ?_
          rotate_left
          focus (intro w0 hS0; have k0 := (hS0.cell (p := ⟨Bm, 0, none⟩) (cell_lt mc0)).trans mc0; have k1 := (hS0.cell (p := ⟨Bm, 1, none⟩) (cell_lt mc0)).trans mc1; have k2 := (hS0.cell (p := ⟨Bm, 2, none⟩) (cell_lt mc0)).trans mc2; have k3 := (hS0.cell (p := ⟨Bm, 3, none⟩) (cell_lt mc0)).trans mc3; clear hS0; go_simp; try with_reducible rfl)
          refine wpAnyH_take (i := 6) (v := ?_) rfl (by kernel_rfl) (by kernel_rfl) (by kernel_rfl) (fun _ _ _ h => h) (Or.inl ⟨by rfl, ?_⟩) hSw ?_
          rotate_left
          focus (intro w0 hS0; clear hS0; go_simp; try with_reducible rfl)
          refine wpAnyH_take (i := 7) (v := ?_) rfl (by kernel_rfl) (by kernel_rfl) (by kernel_rfl) (fun _ _ _ h => h) (Or.inl ⟨by rfl, ?_⟩) hSw ?_
          rotate_left
          focus (intro w0 hS0; clear hS0; go_simp; try with_reducible rfl)
          refine wpAnyH_take (i := 8) (v := ?_) rfl (by kernel_rfl) (by kernel_rfl) (by kernel_rfl) (fun _ _ _ h => h) (Or.inl ⟨by rfl, ?_⟩) hSw ?_
          rotate_left
          focus (intro w0 hS0; clear hS0; go_simp; try with_reducible rfl)
          refine wpAnyH_take (i := 9) (v := ?_) rfl (by kernel_rfl) (by kernel_rfl) (by kernel_rfl) (fun _ _ _ h => h) (Or.inl ⟨by rfl, ?_⟩) hSw ?_
          rotate_left
          focus (intro w0 hS0; have k0 := (hS0.cell (p := ⟨Bm, 0, none⟩) (cell_lt mc0)).trans mc0; have k1 := (hS0.cell (p := ⟨Bm, 1, none⟩) (cell_lt mc0)).trans mc1; have k2 := (hS0.cell (p := ⟨Bm, 2, none⟩) (cell_lt mc0)).trans mc2; have k3 := (hS0.cell (p := ⟨Bm, 3, none⟩) (cell_lt mc0)).trans mc3; clear hS0; go_simp; try with_reducible rfl)
          refine wpAnyH_take (i := 10) (v := ?_) rfl (by kernel_rfl) (by kernel_rfl) (by kernel_rfl) (fun _ _ _ h => h) (Or.inl ⟨by rfl, ?_⟩) hSw ?_
          rotate_left
          focus (intro w0 hS0; clear hS0; go_simp; try with_reducible rfl)
          refine wpAnyH_take (i := 11) (v := ?_) rfl (by kernel_rfl) (by kernel_rfl) (by kernel_rfl) (fun _ _ _ h => h) (Or.inl ⟨by rfl, ?_⟩) hSw ?_
          rotate_left
          focus (intro w0 hS0; clear hS0; go_simp; try with_reducible rfl)
          refine wpAnyH_take (i := 12) (v := ?_) rfl (by kernel_rfl) (by kernel_rfl) (by kernel_rfl) (fun _ _ _ h => h) (Or.inl ⟨by rfl, ?_⟩) hSw ?_
          rotate_left
          focus (intro w0 hS0; clear hS0; go_simp; try with_reducible rfl)
          refine wpAnyH_take (i := 13) (v := ?_) rfl (by kernel_rfl) (by kernel_rfl) (by kernel_rfl) (fun _ _ _ h => h) (Or.inl ⟨by rfl, ?_⟩) hSw ?_
          rotate_left
          focus (intro w0 hS0; have k0 := (hS0.cell (p := ⟨Bm, 0, none⟩) (cell_lt mc0)).trans mc0; have k1 := (hS0.cell (p := ⟨Bm, 1, none⟩) (cell_lt mc0)).trans mc1; have k2 := (hS0.cell (p := ⟨Bm, 2, none⟩) (cell_lt mc0)).trans mc2; have k3 := (hS0.cell (p := ⟨Bm, 3, none⟩) (cell_lt mc0)).trans mc3; clear hS0; go_simp; try with_reducible rfl)
          refine wpAnyH_take (i := 14) (v := ?_) rfl (by kernel_rfl) (by kernel_rfl) (by kernel_rfl) (fun _ _ _ h => h) (Or.inl ⟨by rfl, ?_⟩) hSw ?_
          rotate_left
          focus (intro w0 hS0; clear hS0; go_simp; try with_reducible rfl)
          refine wpAnyH_take (i := 15) (v := ?_) rfl (by kernel_rfl) (by kernel_rfl) (by kernel_rfl) (fun _ _ _ h => h) (Or.inl ⟨by rfl, ?_⟩) hSw ?_
          rotate_left
          focus (intro w0 hS0; clear hS0; go_simp; try with_reducible rfl)
          refine wpAnyH_take (i := 16) (v := ?_) rfl (by kernel_rfl) (by kernel_rfl) (by kernel_rfl) (fun _ _ _ h => h) (Or.inl ⟨by rfl, ?_⟩) hSw ?_
          rotate_left
          focus (intro w0 hS0; clear hS0; go_simp; try with_reducible rfl)
          refine wpAnyH_ready (rs := [17]) (by kernel_rfl) (by simp) (AllReadyH.cons rfl (fun K hK => ?_) (AllReadyH.nil))
          go_simp
          (have hSa : Below W7.heap.size W7 (wd.alloc (.cells #[.int .i64 0, .int .i64 0, .int .i64 0, .int .i64 0] 77)) := hSw.alloc hSw.size _; have y0 : (wd.alloc (.cells #[.int .i64 0, .int .i64 0, .int .i64 0, .int .i64 0] 77)).cell? ⟨wd.heap.size, 0, none⟩ = some (.int .i64 0) := (by simp); have y1 : (wd.alloc (.cells #[.int .i64 0, .int .i64 0, .int .i64 0, .int .i64 0] 77)).cell? ⟨wd.heap.size, 1, none⟩ = some (.int .i64 0) := (by simp); have y2 : (wd.alloc (.cells #[.int .i64 0, .int .i64 0, .int .i64 0, .int .i64 0] 77)).cell? ⟨wd.heap.size, 2, none⟩ = some (.int .i64 0) := (by simp); have y3 : (wd.alloc (.cells #[.int .i64 0, .int .i64 0, .int .i64 0, .int .i64 0] 77)).cell? ⟨wd.heap.size, 3, none⟩ = some (.int .i64 0) := (by simp); have yf : ∀ o, (wd.alloc (.cells #[.int .i64 0, .int .i64 0, .int .i64 0, .int .i64 0] 77)).frozen? ⟨wd.heap.size, o, none⟩ = false := (fun o => by simp); have ya := hSw.size; replace hSw := hSa; clear hSa; refine hK.out _ _ hSw (fun _ => ?_); clear hK K; generalize wd.alloc (.cells #[.int .i64 0, .int .i64 0, .int .i64 0, .int .i64 0] 77) = wam at *; generalize wd.heap.size = Ba at *)
          refine wpAnyH_ready (rs := [18]) (by kernel_rfl) (by simp) (AllReadyH.cons rfl (fun K hK => ?_) (AllReadyH.nil))
          go_simp
          (have z0 := yf 0; have z1 := yf 1; have z2 := yf 2; have z3 := yf 3; have ma0 : (((((wam.setCell ⟨Ba, 0, none⟩ (.int .i64 A)).setCell ⟨Ba, 1, none⟩ (.int .i64 B)).setCell ⟨Ba, 2, none⟩ (.int .i64 C)).setCell ⟨Ba, 3, none⟩ (.int .i64 E))).cell? ⟨Ba, 0, none⟩ = some (.int .i64 A) := (by first | (go_cell; done) | (go_simp; done) | (simp; done)); have ma1 : (((((wam.setCell ⟨Ba, 0, none⟩ (.int .i64 A)).setCell ⟨Ba, 1, none⟩ (.int .i64 B)).setCell ⟨Ba, 2, none⟩ (.int .i64 C)).setCell ⟨Ba, 3, none⟩ (.int .i64 E))).cell? ⟨Ba, 1, none⟩ = some (.int .i64 B) := (by first | (go_cell; done) | (go_simp; done) | (simp; done)); have ma2 : (((((wam.setCell ⟨Ba, 0, none⟩ (.int .i64 A)).setCell ⟨Ba, 1, none⟩ (.int .i64 B)).setCell ⟨Ba, 2, none⟩ (.int .i64 C)).setCell ⟨Ba, 3, none⟩ (.int .i64 E))).cell? ⟨Ba, 2, none⟩ = some (.int .i64 C) := (by first | (go_cell; done) | (go_simp; done) | (simp; done)); have ma3 : (((((wam.setCell ⟨Ba, 0, none⟩ (.int .i64 A)).setCell ⟨Ba, 1, none⟩ (.int .i64 B)).setCell ⟨Ba, 2, none⟩ (.int .i64 C)).setCell ⟨Ba, 3, none⟩ (.int .i64 E))).cell? ⟨Ba, 3, none⟩ = some (.int .i64 E) := (by first | (go_cell; done) | (go_simp; done) | (simp; done)); have hSE : Below W7.heap.size W7 (((((wam.setCell ⟨Ba, 0, none⟩ (.int .i64 A)).setCell ⟨Ba, 1, none⟩ (.int .i64 B)).setCell ⟨Ba, 2, none⟩ (.int .i64 C)).setCell ⟨Ba, 3, none⟩ (.int .i64 E))) := (((hSw.setCell (p := ⟨Ba, 0, none⟩) ya _).setCell (p := ⟨Ba, 1, none⟩) ya _).setCell (p := ⟨Ba, 2, none⟩) ya _).setCell (p := ⟨Ba, 3, none⟩) ya _; refine hK.out _ _ hSE (fun _ => ?_); clear hK K hSw y0 y1 y2 y3 yf ya z0 z1 z2 z3; generalize (((((wam.setCell ⟨Ba, 0, none⟩ (.int .i64 A)).setCell ⟨Ba, 1, none⟩ (.int .i64 B)).setCell ⟨Ba, 2, none⟩ (.int .i64 C)).setCell ⟨Ba, 3, none⟩ (.int .i64 E))) = W8 at *)
          refine wpAnyH_done (by kernel_rfl) ?_ _
          have hB8 := belowTo hB7 hSE
          clear hSE hB7 mc0 mc1 mc2 mc3 QA QB QC QE D1 D2 g1 g2 g3 g4 HD1
          have HMt := Lib.hid (fun w' => specMatIn_any A B C E w')
          cases hm : matB A B C E
          · have HF4 : Hid (R = false) := by
              have := HF3.out
              rw [hm, Bool.false_and] at this
              exact this
            rw [hm] at HMt
            clear HF3 hm
            go_wp2_with fail
            refine Calls.mono (HMt.out _) ?_
            rintro e w9 ⟨rfl, hb9⟩
            have hB9 := belowTo hB8 hb9
            clear hb9 HMt ma0 ma1 ma2 ma3
            go_wp2
            go_returns
            exact ⟨by rw [HF4.out]; rfl, hB9⟩
          · have HF4 : Hid (R = allMv ⟨A, B, C, E⟩ (wayZ p) (stpQ q i s) n) := by
              have := HF3.out
              rw [hm, Bool.true_and] at this
              exact this
            rw [hm] at HMt
            have HZ := Lib.hid (mat_in hm)
            clear HF3 hm
            go_wp2_with fail
            refine Calls.mono (HMt.out _) ?_
            rintro e w9 ⟨rfl, hb9⟩
            have hB9 := belowTo hB8 hb9
            replace ma1 := (hb9.cell (p := ⟨Ba, 1, none⟩) (cell_lt ma0)).trans ma1
            replace ma2 := (hb9.cell (p := ⟨Ba, 2, none⟩) (cell_lt ma0)).trans ma2
            replace ma3 := (hb9.cell (p := ⟨Ba, 3, none⟩) (cell_lt ma0)).trans ma3
            replace ma0 := (hb9.cell (p := ⟨Ba, 0, none⟩) (cell_lt ma0)).trans ma0
            clear hb9 HMt hB8
            have HE0 : Hid (∀ m, m < n → (M4.mv ⟨A, B, C, E⟩ (wayZ p m) == stpQ q i s m) = false → R = false) := fun m hm h => by
              rw [HF4.out]
              exact HAll.out _ ⟨m, hm, h⟩
            have HE1 : Hid ((∀ m, m < n → (M4.mv ⟨A, B, C, E⟩ (wayZ p m) == stpQ q i s m) = true) → R = true) := fun h => by
              rw [HF4.out]
              exact HAll2.out _ h
            have HPr := Lib.hid (fun w' (hb : Below w9.heap.size w9 w') => HPs.out w' (hB9.trans (hb.mono hB9.size)))
            have HQr := Lib.hid (fun w' (hb : Below w9.heap.size w9 w') => HQs.out w' (hB9.trans (hb.mono hB9.size)))
            clear HF4 HAll HAll2 HPs HQs HS t1' t2' w1' w2' w3' i2 i3 i4 i5
            go_wp2
            go_loopw [18] (fun s18 wr => ∃ k : Nat, k ≤ n ∧ s18 = .int .i64 k ∧ Hid (∀ j, j < k → (M4.mv ⟨A, B, C, E⟩ (wayZ p j) == stpQ q i s j) = true) ∧ Below w9.heap.size w9 wr) (fun s18 _ => n - (intOf s18).toNat)
            case atStart => exact ⟨0, Nat.zero_le _, rfl, Lib.hid (fun j hj => absurd hj (Nat.not_lt_zero j)), Below.refl _ _⟩
            case round =>
              obtain ⟨k, hk, rfl, HJ, hBr⟩ := hrel
              have l1 : (0 : Int) ≤ (k : Int) := by omega
              have hsr := hBr.size
              by_cases hlt : k < n
              · have l2 : (k : Int) < (n : Int) := by omega
                obtain ⟨⟨_, hn30⟩, hin, hsn⟩ := HN30.out
                have hks : k * s ≤ 30 * 30 := Nat.mul_le_mul (by omega) (by omega)
                have hks1 : (k + 1) * s = k * s + s := by rw [Nat.add_mul, Nat.one_mul]
                obtain ⟨c0, c1⟩ := HPr.out wr hBr k hlt
                obtain ⟨c2, c3⟩ := HPr.out wr hBr ((k + 1) % n) (Nat.mod_lt _ (by omega))
                obtain ⟨d0, d1⟩ := HQr.out wr hBr ((i + k * s) % n) (Nat.mod_lt _ (by omega))
                obtain ⟨d2, d3⟩ := HQr.out wr hBr ((i + (k + 1) * s) % n) (Nat.mod_lt _ (by omega))
                have eW := hRp.out k
                have eS := hR.out k hlt
                have b0 := HS1.out k
                have b1 := HS1.out ((k + 1) % n)
                have b2 := HS2.out ((i + k * s) % n)
                have b3 := HS2.out ((i + (k + 1) * s) % n)
                have g1 := Nat.mod_lt (k + 1) (show 0 < n by omega)
                have g2 := Nat.mod_lt (i + k * s) (show 0 < n by omega)
                have g3 := Nat.mod_lt (i + (k + 1) * s) (show 0 < n by omega)
                have f0 : IntKind.i64.wrap ((k : Int) + 1) = (k : Int) + 1 := by rw [IntKind.wrap_i64]; omega
                have f1 : IntKind.i64.wrap ((k : Int) * (s : Int)) = (k : Int) * (s : Int) := by rw [← Int.natCast_mul, IntKind.wrap_i64]; omega
                have f2 : IntKind.i64.wrap ((i : Int) + (k : Int) * (s : Int)) = (i : Int) + (k : Int) * (s : Int) := by rw [← Int.natCast_mul, IntKind.wrap_i64]; omega
                have f3 : IntKind.i64.wrap (((k : Int) + 1) * (s : Int)) = ((k : Int) + 1) * (s : Int) := by rw [show ((k : Int) + 1) * (s : Int) = (((k + 1) * s : Nat) : Int) by simp, IntKind.wrap_i64]; omega
                have f4 : IntKind.i64.wrap ((i : Int) + ((k : Int) + 1) * (s : Int)) = (i : Int) + ((k : Int) + 1) * (s : Int) := by rw [show ((k : Int) + 1) * (s : Int) = (((k + 1) * s : Nat) : Int) by simp, IntKind.wrap_i64]; omega
                have t1 := next_is k n
                have t2 : Int.tmod ((i : Int) + (k : Int) * (s : Int)) (n : Int) = (((i + k * s) % n : Nat) : Int) := by rw [← mod_is]; simp
                have t3 : Int.tmod ((i : Int) + ((k : Int) + 1) * (s : Int)) (n : Int) = (((i + (k + 1) * s) % n : Nat) : Int) := by rw [← mod_is]; simp
                have HE0k := Lib.hid (HE0.out k hlt)
                have HJ2 : Hid ((M4.mv ⟨A, B, C, E⟩ (wayZ p k) == stpQ q i s k) = true → ∀ j, j < k + 1 → (M4.mv ⟨A, B, C, E⟩ (wayZ p j) == stpQ q i s j) = true) := fun h j hj => by
                  by_cases e : j = k
                  · subst e; exact h
                  · exact HJ.out j (by omega)
                rw [eW, eS] at HE0k HJ2
                clear eW eS
                generalize (k + 1) % n = ka at *
                generalize (i + k * s) % n = ra at *
                generalize (i + (k + 1) * s) % n = rb at *
                have l3 : (0 : Int) ≤ (ka : Int) := by omega
                have l4 : (ka : Int) < (n : Int) := by omega
                have l5 : (0 : Int) ≤ (ra : Int) := by omega
                have l6 : (ra : Int) < (n : Int) := by omega
                have l7 : (0 : Int) ≤ (rb : Int) := by omega
                have l8 : (rb : Int) < (n : Int) := by omega
                generalize cyc p k = V0 at *
                generalize cyc p ka = V1 at *
                generalize cyc q ra = U0 at *
                generalize cyc q rb = U1 at *
                obtain ⟨vx0, vy0⟩ := V0
                obtain ⟨vx1, vy1⟩ := V1
                obtain ⟨ux0, uy0⟩ := U0
                obtain ⟨ux1, uy1⟩ := U1
                unfold subV at HE0k HJ2
                dsimp only at c0 c1 c2 c3 d0 d1 d2 d3 b0 b1 b2 b3 HE0k HJ2
                have HY1 := Lib.hid (fun w' => l6gWay_any vx0 vy0 vx1 vy1 w' (by unfold big; omega) (by unfold big; omega))
                have HY2 := Lib.hid (fun w' => l6gWay_any ux0 uy0 ux1 uy1 w' (by unfold big; omega) (by unfold big; omega))
                obtain ⟨⟨za, zb, zc, zd⟩, _⟩ := HZ.out
                have HMv := Lib.hid (fun w' => l1Move_any A B C E (vx1 - vx0) (vy1 - vy0) w' za zb zc zd (szB_mk (by omega) (by omega)) (szB_mk (by omega) (by omega)))
                unfold M4.mv moveF at HE0k HJ2
                dsimp only at HE0k HJ2
                generalize moveX A B (vx1 - vx0) (vy1 - vy0) = VX at *
                generalize moveX C E (vx1 - vx0) (vy1 - vy0) = VY at *
                generalize vx1 - vx0 = fx at *
                generalize vy1 - vy0 = fy at *
                generalize ux1 - ux0 = hx at *
                generalize uy1 - uy0 = hy at *
                have qe : ∀ w', (binOp .neq 31 (.agg #[.int .i64 (VX), .int .i64 (VY)]) (.agg #[.int .i64 (hx), .int .i64 (hy)])).run Tryd.prog w' = .ok (.bool (!((VX, VY) == (hx, hy)))) w' := fun w' => by
                  rw [run_neV]
                  rfl
                generalize ((VX, VY) == (hx, hy)) = b at *
                have na0 := (hBr.cell (p := ⟨Ba, 0, none⟩) (cell_lt ma0)).trans ma0
                have na1 := (hBr.cell (p := ⟨Ba, 1, none⟩) (cell_lt ma0)).trans ma1
                have na2 := (hBr.cell (p := ⟨Ba, 2, none⟩) (cell_lt ma0)).trans ma2
                have na3 := (hBr.cell (p := ⟨Ba, 3, none⟩) (cell_lt ma0)).trans ma3
                have hBw := hB9.trans (hBr.mono hB9.size)
                have hsw := hBw.size
                clear HE0 HE1 HJ HPr HQr hR hRp HS1 HS2 za zb zc zd b0 b1 b2 b3 g1 g2 g3 hks hks1 ma0 ma1 ma2 ma3
                go_upto_region 19 with fail
                go_cut [19] from 145 to 187 (fun s wx => ∃ B, s = .pointer (some ⟨B, 0, none⟩) ∧ wx.cell? ⟨B, 0, none⟩ = some (.int .i64 (VX)) ∧ wx.cell? ⟨B, 1, none⟩ = some (.int .i64 (VY)) ∧ Hid (Below wr.heap.size wr wx))
                case first =>
                  refine wp_region_any (by kernel_rfl) ?_
                  try (change wpAny _ _ _ _ _ _ _ (World.drew _))
                  refine wpAny_of_held (S := fun w' => Below (wr.heap.size) wr w') _ _ _ _ ?_
                  have hSw : Below (wr.heap.size) wr (World.drew wr) := by go_grown
                  generalize World.drew wr = wd at hSw ⊢
                  refine wpAnyH_take (i := 0) (v := ?_) rfl (by kernel_rfl) (by kernel_rfl) (by kernel_rfl) (fun _ _ _ h => h) (Or.inl ⟨by rfl, ?_⟩) hSw ?_
                  rotate_left
                  focus (intro w0 hS0; have k0 := (hS0.cell (p := ⟨Ba, 0, none⟩) (cell_lt na0)).trans na0; have k1 := (hS0.cell (p := ⟨Ba, 1, none⟩) (cell_lt na0)).trans na1; have k2 := (hS0.cell (p := ⟨Ba, 2, none⟩) (cell_lt na0)).trans na2; have k3 := (hS0.cell (p := ⟨Ba, 3, none⟩) (cell_lt na0)).trans na3; have k4 := (hS0.cell (p := ⟨bp, op + k * 2, none⟩) (cell_lt c0)).trans c0; have k5 := (hS0.cell (p := ⟨bp, op + k * 2 + 1, none⟩) (cell_lt c0)).trans c1; have k6 := (hS0.cell (p := ⟨bp, op + ka * 2, none⟩) (cell_lt c0)).trans c2; have k7 := (hS0.cell (p := ⟨bp, op + ka * 2 + 1, none⟩) (cell_lt c0)).trans c3; clear hS0; go_simp; try with_reducible rfl)
                  refine wpAnyH_take (i := 1) (v := ?_) rfl (by kernel_rfl) (by kernel_rfl) (by kernel_rfl) (fun _ _ _ h => h) (Or.inl ⟨by rfl, ?_⟩) hSw ?_
                  rotate_left
                  focus (intro w0 hS0; clear hS0; go_simp; try with_reducible rfl)
                  refine wpAnyH_take (i := 2) (v := ?_) rfl (by kernel_rfl) (by kernel_rfl) (by kernel_rfl) (fun _ _ _ h => h) (Or.inl ⟨by rfl, ?_⟩) hSw ?_
                  rotate_left
                  focus (intro w0 hS0; clear hS0; go_simp; try with_reducible rfl)
                  refine wpAnyH_take (i := 3) (v := ?_) rfl (by kernel_rfl) (by kernel_rfl) (by kernel_rfl) (fun _ _ _ h => h) (Or.inl ⟨by rfl, ?_⟩) hSw ?_
                  rotate_left
                  focus (intro w0 hS0; clear hS0; go_simp; try with_reducible rfl)
                  refine wpAnyH_take (i := 4) (v := ?_) rfl (by kernel_rfl) (by kernel_rfl) (by kernel_rfl) (fun _ _ _ h => h) (Or.inl ⟨by rfl, ?_⟩) hSw ?_
                  rotate_left
                  focus (intro w0 hS0; have k0 := (hS0.cell (p := ⟨Ba, 0, none⟩) (cell_lt na0)).trans na0; have k1 := (hS0.cell (p := ⟨Ba, 1, none⟩) (cell_lt na0)).trans na1; have k2 := (hS0.cell (p := ⟨Ba, 2, none⟩) (cell_lt na0)).trans na2; have k3 := (hS0.cell (p := ⟨Ba, 3, none⟩) (cell_lt na0)).trans na3; have k4 := (hS0.cell (p := ⟨bp, op + k * 2, none⟩) (cell_lt c0)).trans c0; have k5 := (hS0.cell (p := ⟨bp, op + k * 2 + 1, none⟩) (cell_lt c0)).trans c1; have k6 := (hS0.cell (p := ⟨bp, op + ka * 2, none⟩) (cell_lt c0)).trans c2; have k7 := (hS0.cell (p := ⟨bp, op + ka * 2 + 1, none⟩) (cell_lt c0)).trans c3; clear hS0; go_simp; try with_reducible rfl)
                  refine wpAnyH_take (i := 5) (v := ?_) rfl (by kernel_rfl) (by kernel_rfl) (by kernel_rfl) (fun _ _ _ h => h) (Or.inl ⟨by rfl, ?_⟩) hSw ?_
                  rotate_left
                  focus (intro w0 hS0; clear hS0; go_simp; try with_reducible rfl)
                  refine wpAnyH_take (i := 6) (v := ?_) rfl (by kernel_rfl) (by kernel_rfl) (by kernel_rfl) (fun _ _ _ h => h) (Or.inl ⟨by rfl, ?_⟩) hSw ?_
                  rotate_left
                  focus (intro w0 hS0; clear hS0; go_simp; try with_reducible rfl)
                  refine wpAnyH_take (i := 7) (v := ?_) rfl (by kernel_rfl) (by kernel_rfl) (by kernel_rfl) (fun _ _ _ h => h) (Or.inl ⟨by rfl, ?_⟩) hSw ?_
                  rotate_left
                  focus (intro w0 hS0; clear hS0; go_simp; try with_reducible rfl)
                  refine wpAnyH_take (i := 8) (v := ?_) rfl (by kernel_rfl) (by kernel_rfl) (by kernel_rfl) (fun _ _ _ h => h) (Or.inl ⟨by rfl, ?_⟩) hSw ?_
                  rotate_left
                  focus (intro w0 hS0; clear hS0; go_simp; try with_reducible rfl)
                  refine wpAnyH_take (i := 9) (v := ?_) rfl (by kernel_rfl) (by kernel_rfl) (by kernel_rfl) (fun _ _ _ h => h) (Or.inl ⟨by rfl, ?_⟩) hSw ?_
                  rotate_left
                  focus (intro w0 hS0; clear hS0; go_simp; try with_reducible rfl)
                  refine wpAnyH_take (i := 10) (v := ?_) rfl (by kernel_rfl) (by kernel_rfl) (by kernel_rfl) (fun _ _ _ h => h) (Or.inl ⟨by rfl, ?_⟩) hSw ?_
                  rotate_left
                  focus (intro w0 hS0; clear hS0; go_simp; try with_reducible rfl)
                  refine wpAnyH_take (i := 11) (v := ?_) rfl (by kernel_rfl) (by kernel_rfl) (by kernel_rfl) (fun _ _ _ h => h) (Or.inl ⟨by rfl, ?_⟩) hSw ?_
                  rotate_left
                  focus (intro w0 hS0; have k0 := (hS0.cell (p := ⟨Ba, 0, none⟩) (cell_lt na0)).trans na0; have k1 := (hS0.cell (p := ⟨Ba, 1, none⟩) (cell_lt na0)).trans na1; have k2 := (hS0.cell (p := ⟨Ba, 2, none⟩) (cell_lt na0)).trans na2; have k3 := (hS0.cell (p := ⟨Ba, 3, none⟩) (cell_lt na0)).trans na3; have k4 := (hS0.cell (p := ⟨bp, op + k * 2, none⟩) (cell_lt c0)).trans c0; have k5 := (hS0.cell (p := ⟨bp, op + k * 2 + 1, none⟩) (cell_lt c0)).trans c1; have k6 := (hS0.cell (p := ⟨bp, op + ka * 2, none⟩) (cell_lt c0)).trans c2; have k7 := (hS0.cell (p := ⟨bp, op + ka * 2 + 1, none⟩) (cell_lt c0)).trans c3; clear hS0; go_simp; try with_reducible rfl)
                  refine wpAnyH_ready (rs := [12, 14]) (by kernel_rfl) (by simp) (AllReadyH.cons rfl (fun K hK => ?_) (AllReadyH.cons rfl (fun K hK => ?_) (AllReadyH.nil)))
                  focus
                    go_simp
                    (refine Calls.mono (HY1.out _) ?_; rintro e wya ⟨rfl, hbX⟩;  replace hSw := belowTo hSw hbX; refine hK.out _ _ hSw (fun _ => ?_); clear hK K hbX)
                    refine wpAnyH_ready (rs := [13, 14]) (by kernel_rfl) (by simp) (AllReadyH.cons rfl (fun K hK => ?_) (AllReadyH.cons rfl (fun K hK => ?_) (AllReadyH.nil)))
                    focus
                      go_simp
                      (refine Calls.mono (HMv.out _) ?_; rintro e wyb ⟨rfl, hbX⟩;  replace hSw := belowTo hSw hbX; refine hK.out _ _ hSw (fun _ => ?_); clear hK K hbX)
                      refine wpAnyH_ready (rs := [14]) (by kernel_rfl) (by simp) (AllReadyH.cons rfl (fun K hK => ?_) (AllReadyH.nil))
                      go_simp
                      (have hSa : Below wr.heap.size wr (wyb.alloc (.cells #[.int .i64 0, .int .i64 0] 31)) := hSw.alloc hSw.size _; have Bvy0 : (wyb.alloc (.cells #[.int .i64 0, .int .i64 0] 31)).cell? ⟨wyb.heap.size, 0, none⟩ = some (.int .i64 0) := (by simp); have Bvy1 : (wyb.alloc (.cells #[.int .i64 0, .int .i64 0] 31)).cell? ⟨wyb.heap.size, 1, none⟩ = some (.int .i64 0) := (by simp); have Bvyf : ∀ o, (wyb.alloc (.cells #[.int .i64 0, .int .i64 0] 31)).frozen? ⟨wyb.heap.size, o, none⟩ = false := (fun o => by simp); have Bvya := hSw.size; replace hSw := hSa; clear hSa; refine hK.out _ _ hSw (fun _ => ?_); clear hK K; generalize wyb.alloc (.cells #[.int .i64 0, .int .i64 0] 31) = wyc at *; generalize wyb.heap.size = Bv at *)
                      refine wpAnyH_ready (rs := [15]) (by kernel_rfl) (by simp) (AllReadyH.cons rfl (fun K hK => ?_) (AllReadyH.nil))
                      go_simp
                      (have y0 := Bvyf 0; have y1 := Bvyf 1; have gv0 : ((wyc.setCell ⟨Bv, 0, none⟩ (.int .i64 VX)).setCell ⟨Bv, 1, none⟩ (.int .i64 VY)).cell? ⟨Bv, 0, none⟩ = some (.int .i64 VX) := (by first | (go_cell; done) | (go_simp; done) | (simp; done)); have gv1 : ((wyc.setCell ⟨Bv, 0, none⟩ (.int .i64 VX)).setCell ⟨Bv, 1, none⟩ (.int .i64 VY)).cell? ⟨Bv, 1, none⟩ = some (.int .i64 VY) := (by first | (go_cell; done) | (go_simp; done) | (simp; done)); have hSE : Below wr.heap.size wr ((wyc.setCell ⟨Bv, 0, none⟩ (.int .i64 VX)).setCell ⟨Bv, 1, none⟩ (.int .i64 VY)) := (hSw.setCell (p := ⟨Bv, 0, none⟩) Bvya _).setCell (p := ⟨Bv, 1, none⟩) Bvya _; refine hK.out _ _ hSE (fun _ => ?_); clear hK K hSw Bvy0 Bvy1 Bvyf Bvya y0 y1; generalize ((wyc.setCell ⟨Bv, 0, none⟩ (.int .i64 VX)).setCell ⟨Bv, 1, none⟩ (.int .i64 VY)) = W10 at *)
                      refine wpAnyH_done (by kernel_rfl) ?_ _
                    rotate_left 1
                    focus
                      go_simp
                      (have hSa : Below wr.heap.size wr (wya.alloc (.cells #[.int .i64 0, .int .i64 0] 31)) := hSw.alloc hSw.size _; have Bvy0 : (wya.alloc (.cells #[.int .i64 0, .int .i64 0] 31)).cell? ⟨wya.heap.size, 0, none⟩ = some (.int .i64 0) := (by simp); have Bvy1 : (wya.alloc (.cells #[.int .i64 0, .int .i64 0] 31)).cell? ⟨wya.heap.size, 1, none⟩ = some (.int .i64 0) := (by simp); have Bvyf : ∀ o, (wya.alloc (.cells #[.int .i64 0, .int .i64 0] 31)).frozen? ⟨wya.heap.size, o, none⟩ = false := (fun o => by simp); have Bvya := hSw.size; replace hSw := hSa; clear hSa; refine hK.out _ _ hSw (fun _ => ?_); clear hK K; generalize wya.alloc (.cells #[.int .i64 0, .int .i64 0] 31) = wyc at *; generalize wya.heap.size = Bv at *)
                      refine wpAnyH_ready (rs := [13]) (by kernel_rfl) (by simp) (AllReadyH.cons rfl (fun K hK => ?_) (AllReadyH.nil))
                      go_simp
                      (refine Calls.mono (HMv.out _) ?_; rintro e wyb ⟨rfl, hbX⟩; replace Bvy1 := (hbX.cell (p := ⟨Bv, 1, none⟩) (cell_lt Bvy0)).trans Bvy1; replace Bvyf := (fun o => (hbX.frozen (p := ⟨Bv, o, none⟩) (cell_lt Bvy0)).trans (Bvyf o)); replace Bvy0 := (hbX.cell (p := ⟨Bv, 0, none⟩) (cell_lt Bvy0)).trans Bvy0; replace hSw := belowTo hSw hbX; refine hK.out _ _ hSw (fun _ => ?_); clear hK K hbX)
                      refine wpAnyH_ready (rs := [15]) (by kernel_rfl) (by simp) (AllReadyH.cons rfl (fun K hK => ?_) (AllReadyH.nil))
                      go_simp
                      (have y0 := Bvyf 0; have y1 := Bvyf 1; have gv0 : ((wyb.setCell ⟨Bv, 0, none⟩ (.int .i64 VX)).setCell ⟨Bv, 1, none⟩ (.int .i64 VY)).cell? ⟨Bv, 0, none⟩ = some (.int .i64 VX) := (by first | (go_cell; done) | (go_simp; done) | (simp; done)); have gv1 : ((wyb.setCell ⟨Bv, 0, none⟩ (.int .i64 VX)).setCell ⟨Bv, 1, none⟩ (.int .i64 VY)).cell? ⟨Bv, 1, none⟩ = some (.int .i64 VY) := (by first | (go_cell; done) | (go_simp; done) | (simp; done)); have hSE : Below wr.heap.size wr ((wyb.setCell ⟨Bv, 0, none⟩ (.int .i64 VX)).setCell ⟨Bv, 1, none⟩ (.int .i64 VY)) := (hSw.setCell (p := ⟨Bv, 0, none⟩) Bvya _).setCell (p := ⟨Bv, 1, none⟩) Bvya _; refine hK.out _ _ hSE (fun _ => ?_); clear hK K hSw Bvy0 Bvy1 Bvyf Bvya y0 y1; generalize ((wyb.setCell ⟨Bv, 0, none⟩ (.int .i64 VX)).setCell ⟨Bv, 1, none⟩ (.int .i64 VY)) = W10 at *)
                      refine wpAnyH_done (by kernel_rfl) ?_ _
                  rotate_left 2
                  focus
                    go_simp
                    (have hSa : Below wr.heap.size wr (wd.alloc (.cells #[.int .i64 0, .int .i64 0] 31)) := hSw.alloc hSw.size _; have Bvy0 : (wd.alloc (.cells #[.int .i64 0, .int .i64 0] 31)).cell? ⟨wd.heap.size, 0, none⟩ = some (.int .i64 0) := (by simp); have Bvy1 : (wd.alloc (.cells #[.int .i64 0, .int .i64 0] 31)).cell? ⟨wd.heap.size, 1, none⟩ = some (.int .i64 0) := (by simp); have Bvyf : ∀ o, (wd.alloc (.cells #[.int .i64 0, .int .i64 0] 31)).frozen? ⟨wd.heap.size, o, none⟩ = false := (fun o => by simp); have Bvya := hSw.size; replace hSw := hSa; clear hSa; refine hK.out _ _ hSw (fun _ => ?_); clear hK K; generalize wd.alloc (.cells #[.int .i64 0, .int .i64 0] 31) = wyc at *; generalize wd.heap.size = Bv at *)
                    refine wpAnyH_ready (rs := [12]) (by kernel_rfl) (by simp) (AllReadyH.cons rfl (fun K hK => ?_) (AllReadyH.nil))
                    go_simp
                    (refine Calls.mono (HY1.out _) ?_; rintro e wya ⟨rfl, hbX⟩; replace Bvy1 := (hbX.cell (p := ⟨Bv, 1, none⟩) (cell_lt Bvy0)).trans Bvy1; replace Bvyf := (fun o => (hbX.frozen (p := ⟨Bv, o, none⟩) (cell_lt Bvy0)).trans (Bvyf o)); replace Bvy0 := (hbX.cell (p := ⟨Bv, 0, none⟩) (cell_lt Bvy0)).trans Bvy0; replace hSw := belowTo hSw hbX; refine hK.out _ _ hSw (fun _ => ?_); clear hK K hbX)
                    refine wpAnyH_ready (rs := [13]) (by kernel_rfl) (by simp) (AllReadyH.cons rfl (fun K hK => ?_) (AllReadyH.nil))
                    go_simp
                    (refine Calls.mono (HMv.out _) ?_; rintro e wyb ⟨rfl, hbX⟩; replace Bvy1 := (hbX.cell (p := ⟨Bv, 1, none⟩) (cell_lt Bvy0)).trans Bvy1; replace Bvyf := (fun o => (hbX.frozen (p := ⟨Bv, o, none⟩) (cell_lt Bvy0)).trans (Bvyf o)); replace Bvy0 := (hbX.cell (p := ⟨Bv, 0, none⟩) (cell_lt Bvy0)).trans Bvy0; replace hSw := belowTo hSw hbX; refine hK.out _ _ hSw (fun _ => ?_); clear hK K hbX)
                    refine wpAnyH_ready (rs := [15]) (by kernel_rfl) (by simp) (AllReadyH.cons rfl (fun K hK => ?_) (AllReadyH.nil))
                    go_simp
                    (have y0 := Bvyf 0; have y1 := Bvyf 1; have gv0 : ((wyb.setCell ⟨Bv, 0, none⟩ (.int .i64 VX)).setCell ⟨Bv, 1, none⟩ (.int .i64 VY)).cell? ⟨Bv, 0, none⟩ = some (.int .i64 VX) := (by first | (go_cell; done) | (go_simp; done) | (simp; done)); have gv1 : ((wyb.setCell ⟨Bv, 0, none⟩ (.int .i64 VX)).setCell ⟨Bv, 1, none⟩ (.int .i64 VY)).cell? ⟨Bv, 1, none⟩ = some (.int .i64 VY) := (by first | (go_cell; done) | (go_simp; done) | (simp; done)); have hSE : Below wr.heap.size wr ((wyb.setCell ⟨Bv, 0, none⟩ (.int .i64 VX)).setCell ⟨Bv, 1, none⟩ (.int .i64 VY)) := (hSw.setCell (p := ⟨Bv, 0, none⟩) Bvya _).setCell (p := ⟨Bv, 1, none⟩) Bvya _; refine hK.out _ _ hSE (fun _ => ?_); clear hK K hSw Bvy0 Bvy1 Bvyf Bvya y0 y1; generalize ((wyb.setCell ⟨Bv, 0, none⟩ (.int .i64 VX)).setCell ⟨Bv, 1, none⟩ (.int .i64 VY)) = W10 at *)
                    refine wpAnyH_done (by kernel_rfl) ?_ _
                  all_goals
                    have HSE := Lib.hid hSE
                    clear hSE
                    go_wp2_with fail
                    go_meet
                    case rel => exact ⟨_, rfl, gv0, gv1, HSE⟩
                case rest =>
                  obtain ⟨Bv, rfl, gv0, gv1, HSE⟩ := hcut
                  have hSE := HSE.out
                  obtain ⟨W10, hWW⟩ : ∃ W9, W9 = wc := ⟨_, rfl⟩
                  subst hWW
                  replace d1 := (hSE.cell (p := ⟨bq, oq + ra * 2 + 1, none⟩) (cell_lt d0)).trans d1
                  replace d2 := (hSE.cell (p := ⟨bq, oq + rb * 2, none⟩) (cell_lt d0)).trans d2
                  replace d3 := (hSE.cell (p := ⟨bq, oq + rb * 2 + 1, none⟩) (cell_lt d0)).trans d3
                  replace d0 := (hSE.cell (p := ⟨bq, oq + ra * 2, none⟩) (cell_lt d0)).trans d0
                  have hB10 := hBr.trans (hSE.mono hsr)
                  have hs10 := hSE.size
                  clear hSE c0 c1 c2 c3 na0 na1 na2 na3 HY1 HMv
                  go_wp2_with fail
                  refine wp_region_any (by kernel_rfl) ?_
                  try (change wpAny _ _ _ _ _ _ _ (World.drew _))
                  refine wpAny_of_held (S := fun w' => Below (W10.heap.size) W10 w') _ _ _ _ ?_
                  have hSw : Below (W10.heap.size) W10 (World.drew W10) := by go_grown
                  generalize World.drew W10 = wd at hSw ⊢
                  refine wpAnyH_take (i := 0) (v := ?_) rfl (by kernel_rfl) (by kernel_rfl) (by kernel_rfl) (fun _ _ _ h => h) (Or.inl ⟨by rfl, ?_⟩) hSw ?_
                  rotate_left
                  focus (intro w0 hS0; have k0 := (hS0.cell (p := ⟨Bv, 0, none⟩) (cell_lt gv0)).trans gv0; have k1 := (hS0.cell (p := ⟨Bv, 1, none⟩) (cell_lt gv0)).trans gv1; have k2 := (hS0.cell (p := ⟨bq, oq + ra * 2, none⟩) (cell_lt d0)).trans d0; have k3 := (hS0.cell (p := ⟨bq, oq + ra * 2 + 1, none⟩) (cell_lt d0)).trans d1; have k4 := (hS0.cell (p := ⟨bq, oq + rb * 2, none⟩) (cell_lt d0)).trans d2; have k5 := (hS0.cell (p := ⟨bq, oq + rb * 2 + 1, none⟩) (cell_lt d0)).trans d3; clear hS0; go_simp; try with_reducible rfl)
                  refine wpAnyH_take (i := 1) (v := ?_) rfl (by kernel_rfl) (by kernel_rfl) (by kernel_rfl) (fun _ _ _ h => h) (Or.inl ⟨by rfl, ?_⟩) hSw ?_
                  rotate_left
                  focus (intro w0 hS0; clear hS0; go_simp; try with_reducible rfl)
                  refine wpAnyH_take (i := 2) (v := ?_) rfl (by kernel_rfl) (by kernel_rfl) (by kernel_rfl) (fun _ _ _ h => h) (Or.inl ⟨by rfl, ?_⟩) hSw ?_
                  rotate_left
                  focus (intro w0 hS0; clear hS0; go_simp; try with_reducible rfl)
                  refine wpAnyH_take (i := 3) (v := ?_) rfl (by kernel_rfl) (by kernel_rfl) (by kernel_rfl) (fun _ _ _ h => h) (Or.inl ⟨by rfl, ?_⟩) hSw ?_
                  rotate_left
                  focus (intro w0 hS0; clear hS0; go_simp; try with_reducible rfl)
                  refine wpAnyH_take (i := 4) (v := ?_) rfl (by kernel_rfl) (by kernel_rfl) (by kernel_rfl) (fun _ _ _ h => h) (Or.inl ⟨by rfl, ?_⟩) hSw ?_
                  rotate_left
                  focus (intro w0 hS0; clear hS0; go_simp; try with_reducible rfl)
                  refine wpAnyH_take (i := 5) (v := ?_) rfl (by kernel_rfl) (by kernel_rfl) (by kernel_rfl) (fun _ _ _ h => h) (Or.inl ⟨by rfl, ?_⟩) hSw ?_
                  rotate_left
                  focus (intro w0 hS0; clear hS0; go_simp; try with_reducible rfl)
                  refine wpAnyH_take (i := 6) (v := ?_) rfl (by kernel_rfl) (by kernel_rfl) (by kernel_rfl) (fun _ _ _ h => h) (Or.inl ⟨by rfl, ?_⟩) hSw ?_
                  rotate_left
                  focus (intro w0 hS0; clear hS0; go_simp; try with_reducible rfl)
                  refine wpAnyH_take (i := 7) (v := ?_) rfl (by kernel_rfl) (by kernel_rfl) (by kernel_rfl) (fun _ _ _ h => h) (Or.inl ⟨by rfl, ?_⟩) hSw ?_
                  rotate_left
                  focus (intro w0 hS0; clear hS0; go_simp; try with_reducible rfl)
                  refine wpAnyH_take (i := 8) (v := ?_) rfl (by kernel_rfl) (by kernel_rfl) (by kernel_rfl) (fun _ _ _ h => h) (Or.inl ⟨by rfl, ?_⟩) hSw ?_
                  rotate_left
                  focus (intro w0 hS0; clear hS0; go_simp; try with_reducible rfl)
                  refine wpAnyH_take (i := 9) (v := ?_) rfl (by kernel_rfl) (by kernel_rfl) (by kernel_rfl) (fun _ _ _ h => h) (Or.inl ⟨by rfl, ?_⟩) hSw ?_
                  rotate_left
                  focus (intro w0 hS0; clear hS0; go_simp; try with_reducible rfl)
                  refine wpAnyH_take (i := 10) (v := ?_) rfl (by kernel_rfl) (by kernel_rfl) (by kernel_rfl) (fun _ _ _ h => h) (Or.inl ⟨by rfl, ?_⟩) hSw ?_
                  rotate_left
                  focus (intro w0 hS0; have k0 := (hS0.cell (p := ⟨Bv, 0, none⟩) (cell_lt gv0)).trans gv0; have k1 := (hS0.cell (p := ⟨Bv, 1, none⟩) (cell_lt gv0)).trans gv1; have k2 := (hS0.cell (p := ⟨bq, oq + ra * 2, none⟩) (cell_lt d0)).trans d0; have k3 := (hS0.cell (p := ⟨bq, oq + ra * 2 + 1, none⟩) (cell_lt d0)).trans d1; have k4 := (hS0.cell (p := ⟨bq, oq + rb * 2, none⟩) (cell_lt d0)).trans d2; have k5 := (hS0.cell (p := ⟨bq, oq + rb * 2 + 1, none⟩) (cell_lt d0)).trans d3; clear hS0; go_simp; try with_reducible rfl)
                  refine wpAnyH_take (i := 11) (v := ?_) rfl (by kernel_rfl) (by kernel_rfl) (by kernel_rfl) (fun _ _ _ h => h) (Or.inl ⟨by rfl, ?_⟩) hSw ?_
                  rotate_left
                  focus (intro w0 hS0; clear hS0; go_simp; try with_reducible rfl)
                  refine wpAnyH_take (i := 12) (v := ?_) rfl (by kernel_rfl) (by kernel_rfl) (by kernel_rfl) (fun _ _ _ h => h) (Or.inl ⟨by rfl, ?_⟩) hSw ?_
                  rotate_left
                  focus (intro w0 hS0; clear hS0; go_simp; try with_reducible rfl)
                  refine wpAnyH_take (i := 13) (v := ?_) rfl (by kernel_rfl) (by kernel_rfl) (by kernel_rfl) (fun _ _ _ h => h) (Or.inl ⟨by rfl, ?_⟩) hSw ?_
                  rotate_left
                  focus (intro w0 hS0; clear hS0; go_simp; try with_reducible rfl)
                  refine wpAnyH_take (i := 14) (v := ?_) rfl (by kernel_rfl) (by kernel_rfl) (by kernel_rfl) (fun _ _ _ h => h) (Or.inl ⟨by rfl, ?_⟩) hSw ?_
                  rotate_left
                  focus (intro w0 hS0; clear hS0; go_simp; try with_reducible rfl)
                  refine wpAnyH_take (i := 15) (v := ?_) rfl (by kernel_rfl) (by kernel_rfl) (by kernel_rfl) (fun _ _ _ h => h) (Or.inl ⟨by rfl, ?_⟩) hSw ?_
                  rotate_left
                  focus (intro w0 hS0; clear hS0; go_simp; try with_reducible rfl)
                  refine wpAnyH_take (i := 16) (v := ?_) rfl (by kernel_rfl) (by kernel_rfl) (by kernel_rfl) (fun _ _ _ h => h) (Or.inl ⟨by rfl, ?_⟩) hSw ?_
                  rotate_left
                  focus (intro w0 hS0; clear hS0; go_simp; try with_reducible rfl)
                  refine wpAnyH_take (i := 17) (v := ?_) rfl (by kernel_rfl) (by kernel_rfl) (by kernel_rfl) (fun _ _ _ h => h) (Or.inl ⟨by rfl, ?_⟩) hSw ?_
                  rotate_left
                  focus (intro w0 hS0; clear hS0; go_simp; try with_reducible rfl)
                  refine wpAnyH_take (i := 18) (v := ?_) rfl (by kernel_rfl) (by kernel_rfl) (by kernel_rfl) (fun _ _ _ h => h) (Or.inl ⟨by rfl, ?_⟩) hSw ?_
                  rotate_left
                  focus (intro w0 hS0; clear hS0; go_simp; try with_reducible rfl)
                  refine wpAnyH_take (i := 19) (v := ?_) rfl (by kernel_rfl) (by kernel_rfl) (by kernel_rfl) (fun _ _ _ h => h) (Or.inl ⟨by rfl, ?_⟩) hSw ?_
                  rotate_left
                  focus (intro w0 hS0; clear hS0; go_simp; try with_reducible rfl)
                  refine wpAnyH_take (i := 20) (v := ?_) rfl (by kernel_rfl) (by kernel_rfl) (by kernel_rfl) (fun _ _ _ h => h) (Or.inl ⟨by rfl, ?_⟩) hSw ?_
                  rotate_left
                  focus (intro w0 hS0; clear hS0; go_simp; try with_reducible rfl)
                  refine wpAnyH_take (i := 21) (v := ?_) rfl (by kernel_rfl) (by kernel_rfl) (by kernel_rfl) (fun _ _ _ h => h) (Or.inl ⟨by rfl, ?_⟩) hSw ?_
                  rotate_left
                  focus (intro w0 hS0; have k0 := (hS0.cell (p := ⟨Bv, 0, none⟩) (cell_lt gv0)).trans gv0; have k1 := (hS0.cell (p := ⟨Bv, 1, none⟩) (cell_lt gv0)).trans gv1; have k2 := (hS0.cell (p := ⟨bq, oq + ra * 2, none⟩) (cell_lt d0)).trans d0; have k3 := (hS0.cell (p := ⟨bq, oq + ra * 2 + 1, none⟩) (cell_lt d0)).trans d1; have k4 := (hS0.cell (p := ⟨bq, oq + rb * 2, none⟩) (cell_lt d0)).trans d2; have k5 := (hS0.cell (p := ⟨bq, oq + rb * 2 + 1, none⟩) (cell_lt d0)).trans d3; clear hS0; go_simp; try with_reducible rfl)
                  refine wpAnyH_ready (rs := [22]) (by kernel_rfl) (by simp) (AllReadyH.cons rfl (fun K hK => ?_) (AllReadyH.nil))
                  go_simp
                  (refine Calls.mono (HY2.out _) ?_; rintro e wyd ⟨rfl, hbX⟩; replace hSw := belowTo hSw hbX; refine hK.out _ _ hSw (fun _ => ?_); clear hK K hbX)
                  refine wpAnyH_take (i := 23) (v := ?_) rfl (by kernel_rfl) (by kernel_rfl) (by kernel_rfl) (fun _ _ _ h => h) (Or.inl ⟨by rfl, ?_⟩) hSw ?_
                  rotate_left
                  focus (intro w0 hS0; clear hS0; go_simp; try with_reducible rfl)
                  refine wpAnyH_done (by kernel_rfl) ?_ _
                  have hB11 := hB10.trans (hSw.mono (by omega))
                  have hBE := hB9.trans (hB11.mono hB9.size)
                  clear hSw hB10 d0 d1 d2 d3 gv0 gv1 HY2 hBw hsw
                  cases b
                  · have HT := Lib.hid (HE0k.out rfl)
                    clear HE0k HJ2
                    go_wp2
                    go_returns
                    exact ⟨by rw [HT.out]; rfl, hBE⟩
                  · have HT := Lib.hid (HJ2.out rfl)
                    clear HE0k HJ2
                    go_wp2
                    go_roundw
                    case rel => exact ⟨k + 1, by omega, by go_num, HT, hB11⟩
                    case measure => simp [intOf]; omega
              · obtain rfl : k = n := by omega
                have l2 : ¬ ((k : Nat) : Int) < (k : Int) := by omega
                have HT := Lib.hid (HE1.out HJ.out)
                have hBE := hB9.trans (hBr.mono hB9.size)
                clear HE0 HE1 HJ HPr HQr hBr
                go_wp2
                go_returns
                exact ⟨by rw [HT.out]; rfl, hBE⟩
        · have HF3 : Hid (R = false) := by
            have := HFit2.out
            rw [show (X4.tmod D == 0) = false by simpa using g4] at this
            exact Lib.hid (by simpa using this)
          clear HFit2
          go_wp2
          refine wp_loop_rounds 5 ?_
          rw [rounds_succ]
          go_wp2
          rw [rounds_succ]
          go_wp2
          rw [rounds_succ]
          go_wp2
          rw [rounds_succ]
          go_wp2
          go_returns
          exact ⟨by rw [HF3.out]; rfl, hB7⟩
      · have HF3 : Hid (R = false) := by
          have := HFit2.out
          rw [show (X3.tmod D == 0) = false by simpa using g3] at this
          exact Lib.hid (by simpa using this)
        clear HFit2
        go_wp2
        refine wp_loop_rounds 5 ?_
        rw [rounds_succ]
        go_wp2
        rw [rounds_succ]
        go_wp2
        rw [rounds_succ]
        go_wp2
        go_returns
        exact ⟨by rw [HF3.out]; rfl, hB7⟩
    · have HF3 : Hid (R = false) := by
        have := HFit2.out
        rw [show (X2.tmod D == 0) = false by simpa using g2] at this
        exact Lib.hid (by simpa using this)
      clear HFit2
      go_wp2
      refine wp_loop_rounds 5 ?_
      rw [rounds_succ]
      go_wp2
      rw [rounds_succ]
      go_wp2
      go_returns
      exact ⟨by rw [HF3.out]; rfl, hB7⟩
  · have HF3 : Hid (R = false) := by
      have := HFit2.out
      rw [show (X1.tmod D == 0) = false by simpa using g1] at this
      exact Lib.hid (by simpa using this)
    clear HFit2
    go_wp2
    refine wp_loop_rounds 5 ?_
    rw [rounds_succ]
    go_wp2
    go_returns
    exact ⟨by rw [HF3.out]; rfl, hB7⟩
end Go.Proofs.YtgaeibibeekclaaDoor

/- PolygonSame: the model's exported function. -/
namespace Go.Proofs.YtgaeibibeekclaaDoor
open Go.RowKit

def fitsB (p q : List V2) (i : Nat) : Bool := fitL p q i 1 || fitL p q i (q.length - 1)
theorem fits_no {f : Nat → Bool} {n : Nat} (h : ∀ j, j < n → f j = false) : (List.range n).any f = false := by
  rw [List.any_eq_false]
  intro j hj
  rw [h j (List.mem_range.1 hj)]
  simp
set_option maxRecDepth 100000 in
set_option maxHeartbeats 16000000 in
theorem specPolygonSame_any (v u : Value) (p q : List V2) (w : World) (hl : ReadsVecs w v p) (hl2 : ReadsVecs w u q) :
    Calls Tryd.prog 28 #[v, u] w fun e w' => e = .returned (.bool (sameL p q)) ∧ Below w.heap.size w w' := by
  rw [sameL_is]
  have HP := Lib.hid (fun w' (hb : Below w.heap.size w w') => specPolygonIn_any v p w' (hl.below hb))
  have HQ := Lib.hid (fun w' (hb : Below w.heap.size w w') => specPolygonIn_any u q w' (hl2.below hb))
  have HF := Lib.hid (fun i s w' (hb : Below w.heap.size w w') h1 h2 hn hi hs => l6gFits_any v u p q i s w' (hl.below hb) (hl2.below hb) h1 h2 hn hi hs)
  obtain ⟨va, vc, rfl, _⟩ := hl
  obtain ⟨ua, uc, rfl, _⟩ := hl2
  cases h1 : polyB p
  · have e1 : sameM p q = false := by unfold sameM; rw [h1]; rfl
    rw [e1]
    rw [h1] at HP
    clear h1 e1 HF HQ
    go_enter Tryd.func28, Tryd.ntmps28
    go_wp2_with fail
    refine Calls.mono (HP.out _ (Below.refl _ _)) ?_
    rintro e w1 ⟨rfl, hb1⟩
    go_wp2
    go_returns
    exact ⟨rfl, hb1⟩
  cases h2 : polyB q
  · have e1 : sameM p q = false := by unfold sameM; rw [h1, h2]; rfl
    rw [e1]
    rw [h1] at HP
    rw [h2] at HQ
    clear h1 h2 e1 HF
    go_enter Tryd.func28, Tryd.ntmps28
    go_wp2_with fail
    refine Calls.mono (HP.out _ (Below.refl _ _)) ?_
    rintro e w1 ⟨rfl, hb1⟩
    go_wp2_with fail
    refine Calls.mono (HQ.out _ hb1) ?_
    rintro e w2 ⟨rfl, hb2⟩
    have hB := belowTo hb1 hb2
    clear hb1 hb2
    go_wp2
    go_returns
    exact ⟨rfl, hB⟩
  by_cases hn : p.length = q.length
  case neg =>
    have e1 : sameM p q = false := by
      unfold sameM
      rw [show (p.length == q.length) = false by simpa using hn, Bool.false_and, Bool.and_false]
    rw [e1]
    rw [h1] at HP
    rw [h2] at HQ
    have n1 : ¬ (p.length : Int) = (q.length : Int) := by omega
    have n2 : ((p.length : Int) == (q.length : Int)) = false := by simpa using n1
    have n3 : ((p.length : Int) != (q.length : Int)) = true := by simp [bne, n2]
    clear h1 h2 e1 HF
    generalize p.length = np at *
    generalize q.length = nq at *
    go_enter Tryd.func28, Tryd.ntmps28
    go_wp2_with fail
    refine Calls.mono (HP.out _ (Below.refl _ _)) ?_
    rintro e w1 ⟨rfl, hb1⟩
    go_wp2_with fail
    refine Calls.mono (HQ.out _ hb1) ?_
    rintro e w2 ⟨rfl, hb2⟩
    have hB := belowTo hb1 hb2
    clear hb1 hb2 HP HQ
    go_wp2
    go_returns
    exact ⟨rfl, hB⟩
  case pos =>
    have q3 := poly_len h2
    have e1 : sameM p q = (List.range q.length).any (fitsB p q) := by
      unfold sameM
      rw [h1, h2, show (p.length == q.length) = true by simpa using hn]
      rfl
    have HF1 : Hid (∀ k, k < q.length → ∀ w', Below w.heap.size w w' → Calls Tryd.prog 58 #[.slice va p.length vc, .slice ua q.length uc, .int .i64 (k : Int), .int .i64 1] w' fun e w'' => e = .returned (.bool (fitL p q k 1)) ∧ Below w'.heap.size w' w'') := fun k hk w' hb => HF.out k 1 w' hb h1 h2 hn hk (by omega)
    have HF2 : Hid (∀ k, k < q.length → ∀ w', Below w.heap.size w w' → Calls Tryd.prog 58 #[.slice va p.length vc, .slice ua q.length uc, .int .i64 (k : Int), .int .i64 ((q.length : Int) - 1)] w' fun e w'' => e = .returned (.bool (fitL p q k (q.length - 1))) ∧ Below w'.heap.size w' w'') := fun k hk w' hb => by
      have h := HF.out k (q.length - 1) w' hb h1 h2 hn hk (by omega)
      rw [show ((q.length - 1 : Nat) : Int) = (q.length : Int) - 1 by omega] at h
      exact h
    rw [e1]
    rw [h1] at HP
    rw [h2] at HQ
    have HY : Hid (∀ k, k < q.length → (fitL p q k 1 || fitL p q k (q.length - 1)) = true → (List.range q.length).any (fitsB p q) = true) := fun k hk h => any_iff.2 ⟨k, hk, h⟩
    have HN : Hid ((∀ k, k < q.length → (fitL p q k 1 || fitL p q k (q.length - 1)) = false) → (List.range q.length).any (fitsB p q) = false) := fun h => fits_no h
    generalize (List.range q.length).any (fitsB p q) = R at *
    rw [hn] at HP HF1 HF2 ⊢
    clear h1 h2 e1 HF hn
    obtain ⟨f1, hf1⟩ : ∃ f : Nat → Bool, f = fun k => fitL p q k 1 := ⟨_, rfl⟩
    obtain ⟨f2, hf2⟩ : ∃ f : Nat → Bool, f = fun k => fitL p q k (q.length - 1) := ⟨_, rfl⟩
    have g1 : ∀ k, fitL p q k 1 = f1 k := fun k => by rw [hf1]
    have g2 : ∀ k, fitL p q k (q.length - 1) = f2 k := fun k => by rw [hf2]
    simp only [g1] at HF1 HY HN
    simp only [g2] at HF2 HY HN
    clear g1 g2 hf1 hf2
    generalize q.length = n at *
    have n1 : ((n : Int) != (n : Int)) = false := by simp
    have qn : IntKind.i64.wrap ((n : Int) - 1) = (n : Int) - 1 := by rw [IntKind.wrap_i64]; omega
    go_enter Tryd.func28, Tryd.ntmps28
    go_wp2_with fail
    refine Calls.mono (HP.out _ (Below.refl _ _)) ?_
    rintro e w1 ⟨rfl, hb1⟩
    go_wp2_with fail
    refine Calls.mono (HQ.out _ hb1) ?_
    rintro e w2 ⟨rfl, hb2⟩
    have HB2 := Lib.hid (belowTo hb1 hb2)
    clear hb1 hb2 HP HQ
    go_wp2
    go_loopw [5] (fun s5 wr => ∃ k : Nat, k ≤ n ∧ s5 = .int .i64 k ∧ Hid (∀ j, j < k → (f1 j || f2 j) = false) ∧ Hid (Below w.heap.size w wr)) (fun s5 _ => n - (intOf s5).toNat)
    case atStart => exact ⟨0, Nat.zero_le _, rfl, Lib.hid (fun j hj => by omega), HB2⟩
    case round =>
      obtain ⟨k, hk, rfl, HJ, HBr⟩ := hrel
      have i1 : (0 : Int) ≤ (k : Int) := by omega
      by_cases hlt : k < n
      · have i2 : (k : Int) < (n : Int) := by omega
        have HC1 := Lib.hid (HF1.out k hlt wr HBr.out)
        have HC2 := Lib.hid (HF2.out k hlt)
        have HYk := Lib.hid (HY.out k hlt)
        have hbr := HBr.out
        clear HF1 HF2 HY HN HB2
        cases hx : f1 k
        · rw [hx] at HC1
          go_wp2_with fail
          refine Calls.mono HC1.out ?_
          rintro e w3 ⟨rfl, hb3⟩
          have hB3 := belowTo hbr hb3
          clear hb3 HC1 hbr
          cases hy : f2 k
          · have HJ2 : Hid (∀ j, j < k + 1 → (f1 j || f2 j) = false) := Lib.hid (fun j hj => by
              rcases Nat.lt_or_ge j k with c | c
              · exact HJ.out j c
              · obtain rfl : j = k := by omega
                rw [hx, hy]
                rfl)
            have HC3 := Lib.hid (HC2.out w3 hB3)
            rw [hy] at HC3
            clear hx hy HC2 HYk HJ
            go_wp2_with fail
            refine Calls.mono HC3.out ?_
            rintro e w4 ⟨rfl, hb4⟩
            have HB4 := Lib.hid (belowTo hB3 hb4)
            clear hb4 hB3 HC3
            go_wp2
            go_roundw
            case rel => exact ⟨k + 1, by omega, by go_num, HJ2, HB4⟩
            case measure => simp [intOf]; omega
          · have hR : R = true := HYk.out (by rw [hx, hy]; rfl)
            have HC3 := Lib.hid (HC2.out w3 hB3)
            rw [hy] at HC3
            subst hR
            clear hx hy HC2 HYk HJ
            go_wp2_with fail
            refine Calls.mono HC3.out ?_
            rintro e w4 ⟨rfl, hb4⟩
            have HB4 := Lib.hid (belowTo hB3 hb4)
            clear hb4 hB3 HC3
            go_wp2
            go_returns
            exact ⟨rfl, HB4.out⟩
        · rw [hx] at HC1
          have hR : R = true := HYk.out (by rw [hx]; rfl)
          subst hR
          clear hx HC2 HYk HJ
          go_wp2_with fail
          refine Calls.mono HC1.out ?_
          rintro e w3 ⟨rfl, hb3⟩
          have HB3 := Lib.hid (belowTo hbr hb3)
          clear hb3 HC1 hbr
          go_wp2
          go_returns
          exact ⟨rfl, HB3.out⟩
      · obtain rfl : k = n := by omega
        have i2 : ¬ (k : Int) < (k : Int) := by omega
        have hR : R = false := HN.out HJ.out
        subst hR
        clear HF1 HF2 HY HN HB2 HJ
        go_wp2
        go_returns
        exact ⟨rfl, HBr.out⟩
end Go.Proofs.YtgaeibibeekclaaDoor
