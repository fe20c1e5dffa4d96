/- Reflexive polygons, the model's side: the dual. -/
import Derived.Test.YtkcnpbgbgdgkpaaGreatDoorZf
import Derived.Test.YtkcnpbgbgdgkpaaGreatDoorYj
import Derived.Test.YtkcnpbgbgdgkpaaGreatDoorWe
namespace Go.Proofs.YtkcnpbgbgdgkpaaGreatDoor
open Go.RowKit

theorem nrm_snocD (l : List V2) (k : Nat) : (List.range (k + 1)).map (nrmZ l) = (List.range k).map (nrmZ l) ++ [nrmZ l k] := by simp [List.range_succ]
theorem nz_ofD {x y : Int} (h : ¬ (x = 0 ∧ y = 0)) : nzB x y = true := by
  cases k : nzB x y
  · exact (h (by simpa [nzB] using k)).elim
  · rfl
set_option maxRecDepth 100000 in
set_option maxHeartbeats 32000000 in
theorem l7Dual_any (v : Value) (l : List V2) (w : World) (h : ReadsVecs w v l) (hk : polyB l = true) :
    Calls Tryz.prog 25 #[v] w (GivesVecs w (tidyP (nrmL l))) := by
  obtain ⟨i0, hi, hz0, hz1, hz2⟩ := info_parts infoVec
  have hE := Vecs.empty w
  have h30 := poly_len hk
  have h0 : 0 < l.length := by omega
  obtain ⟨bb, off, vc, rfl, _, _, hbv, hvs⟩ := h.open h0
  have HVS := Lib.hid hvs
  have HMb := Lib.hid (fun i => poly_small hk i)
  have HWv := Lib.hid (fun i => way_vec hk i)
  have HWn := Lib.hid (fun i => nz_ofD (way_nz hk i))
  have HX := Lib.hid (fun k => nrm_snocD l k)
  have HWz : Hid (∀ i, wayZ l i = ((cyc l (i + 1)).1 - (cyc l i).1, (cyc l (i + 1)).2 - (cyc l i).2)) := fun _ => rfl
  have HNz : Hid (∀ k, nrmZ l k = (-((wayZ l k).2.tdiv (gcdZ (wayZ l k).1 (wayZ l k).2)), (wayZ l k).1.tdiv (gcdZ (wayZ l k).1 (wayZ l k).2))) := fun _ => rfl
  have HZ : Hid (nrmL l = (List.range l.length).map (nrmZ l)) := rfl
  have HLn := Lib.hid (nrm_len l)
  have HFo := Lib.hid (fun v' w' hV => l6gTidy_any v' (nrmL l) w' hV (by rw [nrm_len]; exact h0) (by rw [nrm_len]; omega))
  have HE1 := Lib.hid hE
  generalize tidyP (nrmL l) = R at *
  generalize nrmL l = N at *
  clear h hvs hk hE
  go_enter Tryz.func25, Tryz.ntmps25
  go_wp2
  go_loopw [3, 4] (fun s4 s5 wr => ∃ k : Nat, k ≤ l.length ∧ s5 = .int .i64 k ∧ Hid (Vecs wr w.heap.size s4 ((List.range k).map (nrmZ l))) ∧ Below w.heap.size w wr) (fun _ s5 _ => l.length - (intOf s5).toNat)
  case atStart => exact ⟨0, Nat.zero_le _, rfl, HE1.out, by go_grown⟩
  case round =>
    obtain ⟨k, hk, rfl, HI, hB⟩ := hrel
    have i1 : (0 : Int) ≤ (k : Int) := by omega
    by_cases hlt : k < l.length
    · have i2 : (k : Int) < (l.length : Int) := by omega
      have hq : (k + 1) % l.length < l.length := Nat.mod_lt _ h0
      have j3 : (0 : Int) ≤ (((k + 1) % l.length : Nat) : Int) := by omega
      have j4 : (((k + 1) % l.length : Nat) : Int) < (l.length : Int) := by omega
      have j5 : ¬ (l.length : Int) = 0 := by omega
      have j6 : ((l.length : Int) == 0) = false := by simpa using j5
      have j7 : ¬ l.length = 0 := by omega
      have t2 := next_is k l.length
      have q0 : IntKind.i64.wrap ((k : Int) + 1) = (k : Int) + 1 := by rw [IntKind.wrap_i64]; omega
      obtain ⟨d0, d1⟩ := HVS.out wr hB k hlt
      obtain ⟨d2, d3⟩ := HVS.out wr hB _ hq
      rw [cyc_mod] at d2 d3
      have b0 := HMb.out k
      have b1 := HMb.out (k + 1)
      have hv := HWv.out k
      have hnz := HWn.out k
      have HXk := Lib.hid (HX.out k)
      rw [HNz.out k] at HXk
      rw [HWz.out k] at hv hnz HXk
      have hkl : ((List.range k).map (nrmZ l)).length = k := by simp
      generalize cyc l k = V at *
      generalize cyc l (k + 1) = U at *
      obtain ⟨x1, y1⟩ := V
      obtain ⟨x2, y2⟩ := U
      dsimp only at d0 d1 d2 d3 HXk b0 b1 hv hnz
      generalize (k + 1) % l.length = q at *
      have HW1 := Lib.hid (fun w' => l6gWay_any x1 y1 x2 y2 w' (by unfold big; omega) (by unfold big; omega))
      have HP := Lib.hid (fun w' => l1Primitive_any (x2 - x1) (y2 - y1) w' hv hnz)
      obtain ⟨c1, c2⟩ := szs hv
      have p1 := tdiv_bd (m := gcdZ (x2 - x1) (y2 - y1)) c1
      have p2 := tdiv_bd (m := gcdZ (x2 - x1) (y2 - y1)) c2
      generalize (x2 - x1).tdiv (gcdZ (x2 - x1) (y2 - y1)) = px at *
      generalize (y2 - y1).tdiv (gcdZ (x2 - x1) (y2 - y1)) = py at *
      have q1 : IntKind.i64.wrap (-py) = -py := by rw [IntKind.wrap_i64]; omega
      clear HMb HWv HWn HX HNz HWz HVS b0 b1 hv hnz c1 c2 p1 p2
      go_wp2
      refine wp_region_any (by kernel_rfl) ?_
      try (change wpAny _ _ _ _ _ _ _ (World.drew _))
      refine wpAny_of_held (S := fun w' => Below (wr.heap.size) wr w') _ _ _ _ ?_
      have hSw : Below (wr.heap.size) wr (World.drew wr) := by go_grown
      generalize World.drew wr = wd at hSw ⊢
      refine wpAnyH_take (i := 0) (v := ?_) rfl (by kernel_rfl) (by kernel_rfl) (by kernel_rfl) (fun _ _ _ h => h) (Or.inl ⟨by rfl, ?_⟩) hSw ?_
      rotate_left
      focus (intro w0 hS0; clear hS0; go_simp; try with_reducible rfl)
      refine wpAnyH_take (i := 1) (v := ?_) rfl (by kernel_rfl) (by kernel_rfl) (by kernel_rfl) (fun _ _ _ h => h) (Or.inl ⟨by rfl, ?_⟩) hSw ?_
      rotate_left
      focus (intro w0 hS0; clear hS0; go_simp; try with_reducible rfl)
      refine wpAnyH_take (i := 2) (v := ?_) rfl (by kernel_rfl) (by kernel_rfl) (by kernel_rfl) (fun _ _ _ h => h) (Or.inl ⟨by rfl, ?_⟩) hSw ?_
      rotate_left
      focus (intro w0 hS0; clear hS0; go_simp; try with_reducible rfl)
      refine wpAnyH_take (i := 3) (v := ?_) rfl (by kernel_rfl) (by kernel_rfl) (by kernel_rfl) (fun _ _ _ h => h) (Or.inl ⟨by rfl, ?_⟩) hSw ?_
      rotate_left
      focus (intro w0 hS0; have c0 := (hS0.cell (p := ⟨bb, off + k * 2, none⟩) (cell_lt d0)).trans d0; have c1 := (hS0.cell (p := ⟨bb, off + k * 2 + 1, none⟩) (cell_lt d0)).trans d1; have c2 := (hS0.cell (p := ⟨bb, off + q * 2, none⟩) (cell_lt d2)).trans d2; have c3 := (hS0.cell (p := ⟨bb, off + q * 2 + 1, none⟩) (cell_lt d2)).trans d3; clear hS0; go_simp; try with_reducible rfl)
      refine wpAnyH_take (i := 4) (v := ?_) rfl (by kernel_rfl) (by kernel_rfl) (by kernel_rfl) (fun _ _ _ h => h) (Or.inl ⟨by rfl, ?_⟩) hSw ?_
      rotate_left
      focus (intro w0 hS0; clear hS0; go_simp; try with_reducible rfl)
      refine wpAnyH_take (i := 5) (v := ?_) rfl (by kernel_rfl) (by kernel_rfl) (by kernel_rfl) (fun _ _ _ h => h) (Or.inl ⟨by rfl, ?_⟩) hSw ?_
      rotate_left
      focus (intro w0 hS0; clear hS0; go_simp; try with_reducible rfl)
      refine wpAnyH_take (i := 6) (v := ?_) rfl (by kernel_rfl) (by kernel_rfl) (by kernel_rfl) (fun _ _ _ h => h) (Or.inl ⟨by rfl, ?_⟩) hSw ?_
      rotate_left
      focus (intro w0 hS0; clear hS0; go_simp; try with_reducible rfl)
      refine wpAnyH_take (i := 7) (v := ?_) rfl (by kernel_rfl) (by kernel_rfl) (by kernel_rfl) (fun _ _ _ h => h) (Or.inl ⟨by rfl, ?_⟩) hSw ?_
      rotate_left
      focus (intro w0 hS0; clear hS0; go_simp; try with_reducible rfl)
      refine wpAnyH_take (i := 8) (v := ?_) rfl (by kernel_rfl) (by kernel_rfl) (by kernel_rfl) (fun _ _ _ h => h) (Or.inl ⟨by rfl, ?_⟩) hSw ?_
      rotate_left
      focus (intro w0 hS0; clear hS0; go_simp; try with_reducible rfl)
      refine wpAnyH_take (i := 9) (v := ?_) rfl (by kernel_rfl) (by kernel_rfl) (by kernel_rfl) (fun _ _ _ h => h) (Or.inl ⟨by rfl, ?_⟩) hSw ?_
      rotate_left
      focus (intro w0 hS0; clear hS0; go_simp; try with_reducible rfl)
      refine wpAnyH_take (i := 10) (v := ?_) rfl (by kernel_rfl) (by kernel_rfl) (by kernel_rfl) (fun _ _ _ h => h) (Or.inl ⟨by rfl, ?_⟩) hSw ?_
      rotate_left
      focus (intro w0 hS0; clear hS0; go_simp; try with_reducible rfl)
      refine wpAnyH_take (i := 11) (v := ?_) rfl (by kernel_rfl) (by kernel_rfl) (by kernel_rfl) (fun _ _ _ h => h) (Or.inl ⟨by rfl, ?_⟩) hSw ?_
      rotate_left
      focus (intro w0 hS0; have c0 := (hS0.cell (p := ⟨bb, off + k * 2, none⟩) (cell_lt d0)).trans d0; have c1 := (hS0.cell (p := ⟨bb, off + k * 2 + 1, none⟩) (cell_lt d0)).trans d1; have c2 := (hS0.cell (p := ⟨bb, off + q * 2, none⟩) (cell_lt d2)).trans d2; have c3 := (hS0.cell (p := ⟨bb, off + q * 2 + 1, none⟩) (cell_lt d2)).trans d3; clear hS0; go_simp; try with_reducible rfl)
      refine wpAnyH_ready (rs := [12, 14]) (by kernel_rfl) (by simp) (AllReadyH.cons rfl (fun K hK => ?_) (AllReadyH.cons rfl (fun K hK => ?_) (AllReadyH.nil)))
      focus
        go_simp
        (refine Calls.mono (HW1.out _) ?_; rintro e w4 ⟨rfl, hbX⟩;  replace hSw := belowTo hSw hbX; refine hK.out _ _ hSw (fun _ => ?_); clear hK K hbX)
        refine wpAnyH_ready (rs := [13, 14]) (by kernel_rfl) (by simp) (AllReadyH.cons rfl (fun K hK => ?_) (AllReadyH.cons rfl (fun K hK => ?_) (AllReadyH.nil)))
        focus
          go_simp
          (refine Calls.mono (HP.out _) ?_; rintro e w6 ⟨rfl, hbX⟩;  replace hSw := belowTo hSw hbX; refine hK.out _ _ hSw (fun _ => ?_); clear hK K hbX)
          refine wpAnyH_ready (rs := [14]) (by kernel_rfl) (by simp) (AllReadyH.cons rfl (fun K hK => ?_) (AllReadyH.nil))
          go_simp
          (have hSa : Below wr.heap.size wr (w6.alloc (.cells #[.int .i64 0, .int .i64 0] 41)) := hSw.alloc hSw.size _; have Bay0 : (w6.alloc (.cells #[.int .i64 0, .int .i64 0] 41)).cell? ⟨w6.heap.size, 0, none⟩ = some (.int .i64 0) := (by simp); have Bay1 : (w6.alloc (.cells #[.int .i64 0, .int .i64 0] 41)).cell? ⟨w6.heap.size, 1, none⟩ = some (.int .i64 0) := (by simp); have Bayf : ∀ o, (w6.alloc (.cells #[.int .i64 0, .int .i64 0] 41)).frozen? ⟨w6.heap.size, o, none⟩ = false := (fun o => by simp); have Baya := hSw.size; replace hSw := hSa; clear hSa; refine hK.out _ _ hSw (fun _ => ?_); clear hK K; generalize w6.alloc (.cells #[.int .i64 0, .int .i64 0] 41) = wa at *; generalize w6.heap.size = Ba at *)
          refine wpAnyH_ready (rs := [15]) (by kernel_rfl) (by simp) (AllReadyH.cons rfl (fun K hK => ?_) (AllReadyH.nil))
          go_simp
          (have z0 := Bayf 0; have z1 := Bayf 1; have g0 : ((wa.setCell ⟨Ba, 0, none⟩ (.int .i64 (px))).setCell ⟨Ba, 1, none⟩ (.int .i64 (py))).cell? ⟨Ba, 0, none⟩ = some (.int .i64 (px)) := (by first | (go_cell; done) | (go_simp; done) | (simp; done)); have g1 : ((wa.setCell ⟨Ba, 0, none⟩ (.int .i64 (px))).setCell ⟨Ba, 1, none⟩ (.int .i64 (py))).cell? ⟨Ba, 1, none⟩ = some (.int .i64 (py)) := (by first | (go_cell; done) | (go_simp; done) | (simp; done)); have hSE : Below wr.heap.size wr ((wa.setCell ⟨Ba, 0, none⟩ (.int .i64 (px))).setCell ⟨Ba, 1, none⟩ (.int .i64 (py))) := (hSw.setCell (p := ⟨Ba, 0, none⟩) Baya _).setCell (p := ⟨Ba, 1, none⟩) Baya _; refine hK.out _ _ hSE (fun _ => ?_); clear hK K hSw Bay0 Bay1 Bayf Baya z0 z1; generalize ((wa.setCell ⟨Ba, 0, none⟩ (.int .i64 (px))).setCell ⟨Ba, 1, none⟩ (.int .i64 (py))) = W5 at *)
          refine wpAnyH_done (by kernel_rfl) ?_ _
        rotate_left 1
        focus
          go_simp
          (have hSa : Below wr.heap.size wr (w4.alloc (.cells #[.int .i64 0, .int .i64 0] 41)) := hSw.alloc hSw.size _; have Bay0 : (w4.alloc (.cells #[.int .i64 0, .int .i64 0] 41)).cell? ⟨w4.heap.size, 0, none⟩ = some (.int .i64 0) := (by simp); have Bay1 : (w4.alloc (.cells #[.int .i64 0, .int .i64 0] 41)).cell? ⟨w4.heap.size, 1, none⟩ = some (.int .i64 0) := (by simp); have Bayf : ∀ o, (w4.alloc (.cells #[.int .i64 0, .int .i64 0] 41)).frozen? ⟨w4.heap.size, o, none⟩ = false := (fun o => by simp); have Baya := hSw.size; replace hSw := hSa; clear hSa; refine hK.out _ _ hSw (fun _ => ?_); clear hK K; generalize w4.alloc (.cells #[.int .i64 0, .int .i64 0] 41) = wa at *; generalize w4.heap.size = Ba at *)
          refine wpAnyH_ready (rs := [13]) (by kernel_rfl) (by simp) (AllReadyH.cons rfl (fun K hK => ?_) (AllReadyH.nil))
          go_simp
          (refine Calls.mono (HP.out _) ?_; rintro e w6 ⟨rfl, hbX⟩; replace Bay1 := (hbX.cell (p := ⟨Ba, 1, none⟩) (cell_lt Bay0)).trans Bay1; replace Bayf := (fun o => (hbX.frozen (p := ⟨Ba, o, none⟩) (cell_lt Bay0)).trans (Bayf o)); replace Bay0 := (hbX.cell (p := ⟨Ba, 0, none⟩) (cell_lt Bay0)).trans Bay0; replace hSw := belowTo hSw hbX; refine hK.out _ _ hSw (fun _ => ?_); clear hK K hbX)
          refine wpAnyH_ready (rs := [15]) (by kernel_rfl) (by simp) (AllReadyH.cons rfl (fun K hK => ?_) (AllReadyH.nil))
          go_simp
          (have z0 := Bayf 0; have z1 := Bayf 1; have g0 : ((w6.setCell ⟨Ba, 0, none⟩ (.int .i64 (px))).setCell ⟨Ba, 1, none⟩ (.int .i64 (py))).cell? ⟨Ba, 0, none⟩ = some (.int .i64 (px)) := (by first | (go_cell; done) | (go_simp; done) | (simp; done)); have g1 : ((w6.setCell ⟨Ba, 0, none⟩ (.int .i64 (px))).setCell ⟨Ba, 1, none⟩ (.int .i64 (py))).cell? ⟨Ba, 1, none⟩ = some (.int .i64 (py)) := (by first | (go_cell; done) | (go_simp; done) | (simp; done)); have hSE : Below wr.heap.size wr ((w6.setCell ⟨Ba, 0, none⟩ (.int .i64 (px))).setCell ⟨Ba, 1, none⟩ (.int .i64 (py))) := (hSw.setCell (p := ⟨Ba, 0, none⟩) Baya _).setCell (p := ⟨Ba, 1, none⟩) Baya _; refine hK.out _ _ hSE (fun _ => ?_); clear hK K hSw Bay0 Bay1 Bayf Baya z0 z1; generalize ((w6.setCell ⟨Ba, 0, none⟩ (.int .i64 (px))).setCell ⟨Ba, 1, none⟩ (.int .i64 (py))) = W5 at *)
          refine wpAnyH_done (by kernel_rfl) ?_ _
      rotate_left 2
      focus
        go_simp
        (have hSa : Below wr.heap.size wr (wd.alloc (.cells #[.int .i64 0, .int .i64 0] 41)) := hSw.alloc hSw.size _; have Bay0 : (wd.alloc (.cells #[.int .i64 0, .int .i64 0] 41)).cell? ⟨wd.heap.size, 0, none⟩ = some (.int .i64 0) := (by simp); have Bay1 : (wd.alloc (.cells #[.int .i64 0, .int .i64 0] 41)).cell? ⟨wd.heap.size, 1, none⟩ = some (.int .i64 0) := (by simp); have Bayf : ∀ o, (wd.alloc (.cells #[.int .i64 0, .int .i64 0] 41)).frozen? ⟨wd.heap.size, o, none⟩ = false := (fun o => by simp); have Baya := hSw.size; replace hSw := hSa; clear hSa; refine hK.out _ _ hSw (fun _ => ?_); clear hK K; generalize wd.alloc (.cells #[.int .i64 0, .int .i64 0] 41) = wa at *; generalize wd.heap.size = Ba at *)
        refine wpAnyH_ready (rs := [12]) (by kernel_rfl) (by simp) (AllReadyH.cons rfl (fun K hK => ?_) (AllReadyH.nil))
        go_simp
        (refine Calls.mono (HW1.out _) ?_; rintro e w4 ⟨rfl, hbX⟩; replace Bay1 := (hbX.cell (p := ⟨Ba, 1, none⟩) (cell_lt Bay0)).trans Bay1; replace Bayf := (fun o => (hbX.frozen (p := ⟨Ba, o, none⟩) (cell_lt Bay0)).trans (Bayf o)); replace Bay0 := (hbX.cell (p := ⟨Ba, 0, none⟩) (cell_lt Bay0)).trans Bay0; replace hSw := belowTo hSw hbX; refine hK.out _ _ hSw (fun _ => ?_); clear hK K hbX)
        refine wpAnyH_ready (rs := [13]) (by kernel_rfl) (by simp) (AllReadyH.cons rfl (fun K hK => ?_) (AllReadyH.nil))
        go_simp
        (refine Calls.mono (HP.out _) ?_; rintro e w6 ⟨rfl, hbX⟩; replace Bay1 := (hbX.cell (p := ⟨Ba, 1, none⟩) (cell_lt Bay0)).trans Bay1; replace Bayf := (fun o => (hbX.frozen (p := ⟨Ba, o, none⟩) (cell_lt Bay0)).trans (Bayf o)); replace Bay0 := (hbX.cell (p := ⟨Ba, 0, none⟩) (cell_lt Bay0)).trans Bay0; replace hSw := belowTo hSw hbX; refine hK.out _ _ hSw (fun _ => ?_); clear hK K hbX)
        refine wpAnyH_ready (rs := [15]) (by kernel_rfl) (by simp) (AllReadyH.cons rfl (fun K hK => ?_) (AllReadyH.nil))
        go_simp
        (have z0 := Bayf 0; have z1 := Bayf 1; have g0 : ((w6.setCell ⟨Ba, 0, none⟩ (.int .i64 (px))).setCell ⟨Ba, 1, none⟩ (.int .i64 (py))).cell? ⟨Ba, 0, none⟩ = some (.int .i64 (px)) := (by first | (go_cell; done) | (go_simp; done) | (simp; done)); have g1 : ((w6.setCell ⟨Ba, 0, none⟩ (.int .i64 (px))).setCell ⟨Ba, 1, none⟩ (.int .i64 (py))).cell? ⟨Ba, 1, none⟩ = some (.int .i64 (py)) := (by first | (go_cell; done) | (go_simp; done) | (simp; done)); have hSE : Below wr.heap.size wr ((w6.setCell ⟨Ba, 0, none⟩ (.int .i64 (px))).setCell ⟨Ba, 1, none⟩ (.int .i64 (py))) := (hSw.setCell (p := ⟨Ba, 0, none⟩) Baya _).setCell (p := ⟨Ba, 1, none⟩) Baya _; refine hK.out _ _ hSE (fun _ => ?_); clear hK K hSw Bay0 Bay1 Bayf Baya z0 z1; generalize ((w6.setCell ⟨Ba, 0, none⟩ (.int .i64 (px))).setCell ⟨Ba, 1, none⟩ (.int .i64 (py))) = W5 at *)
        refine wpAnyH_done (by kernel_rfl) ?_ _
      all_goals
        have hB5 := belowTo hB hSE
        have hown := HI.out.below hSE
        unfold Vecs VRow at hown
        rw [hkl] at hown
        have hbs := hB5.size
        clear hSE d0 d1 d2 d3
        go_wp2_with (at_builtin; refine wpList_append_own_at _ rfl _ _ 24 rfl w.heap.size 41 i0 (.agg #[.int .i64 (0), .int .i64 (0)]) 2 16 Tryz.underlying24 hi hz0 hz1 hz2 rfl (by decide) _ _ _ rfl (hown.alloc _) ⟨_, 0, none⟩ 1 1 [.int .i64 (-py), .int .i64 px] rfl rfl ?c1 ?c2 ?c3 ?c4 ?c5 ?_)
        case c1 =>
          intro j u hj
          match j, hj with
          | 0, hj => simp at hj; subst hj; simp [Addr.add]
          | 1, hj => simp at hj; subst hj; simp [Addr.add]
        case c2 => intro u hu; simp at hu; rcases hu with rfl | rfl <;> rfl
        case c3 => unfold maxLen; omega
        case c4 => omega
        case c5 => simp; omega
        intro v' w4 hown' hgrow _ _
        have hB6 := (hB5.alloc hbs _).grown hgrow (by simp; omega) (fun k hk => (hown.lt k hk).1)
        have HVv := Lib.hid (Vecs.snoc (l := (List.range k).map (nrmZ l)) hkl.symm hown')
        rw [← HXk.out] at HVv
        clear hown' hgrow hown hB5 HI hkl hbs g0 g1
        go_wp2
        go_roundw
        case rel => exact ⟨k + 1, by omega, by go_num, HVv, hB6⟩
        case measure => simp [intOf]; omega
    · obtain rfl : k = l.length := by omega
      have i2 : ¬ ((l.length : Nat) : Int) < (l.length : Int) := by omega
      have hV := HI.out
      rw [← HZ.out] at hV
      have HC4 := Lib.hid (HFo.out _ wr (hV.reads (by rw [HLn.out]; omega)))
      clear hV HFo HI
      go_wp2_with fail
      refine Calls.mono HC4.out ?_
      rintro e5 w5 ⟨v5, rfl, hV5, hb5⟩
      have HV5 := Lib.hid (hV5.lower hB.size)
      have hB6 := belowTo hB hb5
      clear hV5 hb5 HC4
      go_wp2
      go_returns
      exact ⟨_, rfl, HV5.out, hB6⟩
/-- the dual, and whether it is a polygon -/
def dulB (l : List V2) : Bool := reflB l && polyB (nrmL l)
def dulL (l : List V2) : List V2 := gV (dulB l) (tidyP (nrmL l))
theorem dul_len (l : List V2) : (dulL l).length ≤ 576460752303423488 := gV_len (fun h => by
  unfold dulB at h
  rw [Bool.and_eq_true] at h
  have := poly_len h.2
  rw [tidyP_len]
  omega)
set_option maxHeartbeats 4000000 in
theorem specReflexiveDual_any (v : Value) (l : List V2) (w : World) (h : ReadsVecs w v l) :
    Calls Tryz.prog 8 #[v] w (GivesVecsOk w (dulL l) (dulB l)) := by
  have HC := Lib.hid (specReflexiveIn_any v l w h)
  have HD := Lib.hid (fun w' (hb : Below w.heap.size w w') (hr : reflB l = true) => l7Dual_any v l w' (h.below hb) (refl_in hr).1)
  have HO := Lib.hid (fun v' b' w' (hI : Vecs w' b' v' (tidyP (nrmL l))) (hm : (tidyP (nrmL l)).length ≤ 576460752303423488) => l6gDone_any v' (tidyP (nrmL l)) w' (hI.reads hm))
  have hE := Lib.hid (fun w' => Vecs.empty w')
  have hm := h
  obtain ⟨a, c, rfl, _, hm, _⟩ := hm
  have HLe : Hid ((tidyP (nrmL l)).length ≤ 576460752303423488) := by show _ ≤ _; rw [tidyP_len, nrm_len]; exact hm
  clear h
  unfold dulL dulB
  unfold TidyS at HO
  cases hr : reflB l
  · rw [hr] at HC
    clear hr HD HO HLe hm
    go_enter Tryz.func8, Tryz.ntmps8
    go_wp2_with fail
    refine Calls.mono HC.out ?_
    rintro e w1 ⟨rfl, hb1⟩
    have hs1 := hb1.size
    have HE := Lib.hid ((hE.out w1).lower hs1)
    go_wp2
    go_returns
    exact ⟨_, rfl, HE.out, by go_grown⟩
  · rw [hr] at HC
    have hc := tidy_convS (dual_conv hr)
    rw [hc.2, tidyP_poly] at HO
    have HD2 := Lib.hid (fun w' hb => HD.out w' hb hr)
    clear hr HD hc hm hE
    rw [Bool.true_and]
    generalize polyB (nrmL l) = K at *
    generalize tidyP (nrmL l) = R at *
    go_enter Tryz.func8, Tryz.ntmps8
    go_wp2_with fail
    refine Calls.mono HC.out ?_
    rintro e w1 ⟨rfl, hb1⟩
    have hs1 := hb1.size
    go_wp2_with fail
    refine Calls.mono (HD2.out _ hb1) ?_
    rintro e w2 ⟨v2, rfl, I2, hb2⟩
    have HO2 := Lib.hid (HO.out v2 _ w2 I2 HLe.out)
    have hb := belowTo hb1 hb2
    clear hb2 I2 HO
    go_wp2_with fail
    refine Calls.mono HO2.out ?_
    rintro e w3 ⟨v3, rfl, I3, hb3⟩
    have HI3 := Lib.hid (I3.lower hb.size)
    replace hb := belowTo hb hb3
    clear hb3 I3 HO2
    go_wp2
    go_returns
    exact ⟨_, rfl, HI3.out, hb⟩
set_option maxHeartbeats 4000000 in
theorem specReflexiveTwelve_any (v : Value) (l : List V2) (w : World) (h : ReadsVecs w v l) :
    Calls Tryz.prog 14 #[v] w fun e w' => e = .returned (.tuple #[.int .i64 (gate (dulB l) (edgeZ l l.length)), .int .i64 (gate (dulB l) (edgeZ (dulL l) (dulL l).length)), .bool (dulB l)]) ∧ Below w.heap.size w w' := by
  have HC := Lib.hid (specReflexiveDual_any v l w h)
  have HE := Lib.hid (fun w' (hb : Below w.heap.size w w') (hd : dulB l = true) => l6gEdge_any v l w' (h.below hb) (refl_in (by unfold dulB at hd; rw [Bool.and_eq_true] at hd; exact hd.1)).1)
  have HF := Lib.hid (fun v' b' w' (hI : Vecs w' b' v' (dulL l)) (hd : dulB l = true) => l6gEdge_any v' (dulL l) w' (hI.reads (dul_len l)) (by unfold dulL; rw [hd]; show polyB (tidyP (nrmL l)) = true; rw [tidyP_poly]; unfold dulB at hd; rw [Bool.and_eq_true] at hd; exact hd.2))
  obtain ⟨a, c, rfl, _⟩ := h
  generalize edgeZ l l.length = x at *
  generalize edgeZ (dulL l) (dulL l).length = y at *
  cases hd : dulB l
  · rw [hd] at HC
    clear hd HE HF
    go_enter Tryz.func14, Tryz.ntmps14
    go_wp2_with fail
    refine Calls.mono HC.out ?_
    rintro e w1 ⟨v1, rfl, I1, hb1⟩
    clear I1
    go_wp2
    go_returns
    exact ⟨rfl, hb1⟩
  · rw [hd] at HC
    have HE2 := Lib.hid (fun w' hb => HE.out w' hb hd)
    have HF2 := Lib.hid (fun v' b' w' hI => HF.out v' b' w' hI hd)
    clear hd HE HF
    go_enter Tryz.func14, Tryz.ntmps14
    go_wp2_with fail
    refine Calls.mono HC.out ?_
    rintro e w1 ⟨v1, rfl, I1, hb1⟩
    have HI1 := Lib.hid I1
    clear I1
    go_wp2_with fail
    refine Calls.mono (HE2.out _ hb1) ?_
    rintro e w2 ⟨rfl, hb2⟩
    have HF3 := Lib.hid (HF2.out v1 _ w2 (HI1.out.below hb2))
    have hb := belowTo hb1 hb2
    clear hb2 hb1 HI1
    go_wp2_with fail
    refine Calls.mono HF3.out ?_
    rintro e w3 ⟨rfl, hb3⟩
    replace hb := belowTo hb hb3
    clear hb3
    go_wp2
    go_returns
    exact ⟨rfl, hb⟩
end Go.Proofs.YtkcnpbgbgdgkpaaGreatDoor
