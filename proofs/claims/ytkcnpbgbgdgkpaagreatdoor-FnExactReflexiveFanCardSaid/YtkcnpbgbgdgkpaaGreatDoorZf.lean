/- Reflexive polygons: what is one: the model. -/
import Derived.Test.YtkcnpbgbgdgkpaaGreatDoorBk
import Derived.Test.YtkcnpbgbgdgkpaaGreatDoorWh
namespace Go.Proofs.YtkcnpbgbgdgkpaaGreatDoor
open Go.RowKit

set_option maxRecDepth 100000 in
set_option maxHeartbeats 16000000 in
theorem l7In_any (v : Value) (l : List V2) (w : World) (h : ReadsVecs w v l) (hp : polyB l = true) :
    Calls Tryz.prog 41 #[v] w fun e w' => e = .returned (.bool (allR l)) ∧ Below w.heap.size w w' := by
  have h30 := poly_len hp
  have h0 : 0 < l.length := by omega
  obtain ⟨bb, off, vc, rfl, _, _, hbv, hvs⟩ := h.open h0
  have HVS := Lib.hid hvs
  have HMb := Lib.hid (fun i => poly_small hp i)
  have HN := Lib.hid (fun i h1 h2 => allR_not (l := l) (i := i) h1 h2)
  have HY := Lib.hid (fun h1 => allR_of (l := l) h1)
  have HSi : Hid (∀ i, reflK l i = decide (detZ (cyc l i).1 (cyc l i).2 (cyc l (i + 1)).1 (cyc l (i + 1)).2 = gcdZ ((cyc l (i + 1)).1 - (cyc l i).1) ((cyc l (i + 1)).2 - (cyc l i).2))) := fun _ => rfl
  generalize allR l = K at *
  clear h hvs hp
  go_enter Tryz.func41, Tryz.ntmps41
  go_wp2
  go_loopw [3] (fun s wr => ∃ k : Nat, k ≤ l.length ∧ s = .int .i64 k ∧ Hid (∀ j, j < k → reflK l j = true) ∧ Below w.heap.size w wr) (fun s _ => l.length - (intOf s).toNat)
  case atStart => exact ⟨0, Nat.zero_le _, rfl, fun j hj => by omega, Below.refl _ _⟩
  case round =>
    obtain ⟨k, hk, rfl, HE, hB⟩ := hrel
    have i1 : (0 : Int) ≤ (k : Int) := by omega
    by_cases hlt : k < l.length
    · have i2 : (k : Int) < (l.length : Int) := by omega
      have hq : (k + 1) % l.length < l.length := Nat.mod_lt _ h0
      have j3 : (0 : Int) ≤ (((k + 1) % l.length : Nat) : Int) := by omega
      have j4 : (((k + 1) % l.length : Nat) : Int) < (l.length : Int) := by omega
      have j5 : ¬ (l.length : Int) = 0 := by omega
      have j6 : ((l.length : Int) == 0) = false := by simpa using j5
      have j7 : ¬ l.length = 0 := by omega
      have t2 := next_is k l.length
      have q0 : IntKind.i64.wrap ((k : Int) + 1) = (k : Int) + 1 := by rw [IntKind.wrap_i64]; omega
      obtain ⟨d0, d1⟩ := HVS.out wr hB k hlt
      obtain ⟨d2, d3⟩ := HVS.out wr hB _ hq
      rw [cyc_mod] at d2 d3
      have HNk := Lib.hid (fun h => HN.out k hlt h)
      have HE2 : Hid (reflK l k = true → ∀ j, j < k + 1 → reflK l j = true) := fun h j h2 => by
        by_cases e : j = k
        · subst e; exact h
        · exact HE.out j (by omega)
      have b0 := HMb.out k
      have b1 := HMb.out (k + 1)
      have HSk := Lib.hid (HSi.out k)
      generalize hz : reflK l k = z at HNk HE2 HSk
      clear hz
      generalize cyc l k = V at *
      generalize cyc l (k + 1) = U at *
      obtain ⟨x1, y1⟩ := V
      obtain ⟨x2, y2⟩ := U
      dsimp only at d0 d1 d2 d3 HSk b0 b1
      generalize (k + 1) % l.length = q at *
      have HW1 := Lib.hid (fun w' => l6gWay_any x1 y1 x2 y2 w' (by unfold big; omega) (by unfold big; omega))
      have HG := Lib.hid (fun w' => l1Gcd_any (x2 - x1) (y2 - y1) w' (by omega) (by omega))
      have HD := Lib.hid (fun w' => l1DetBig_any x1 y1 x2 y2 w' (by unfold big; omega) (by unfold big; omega))
      generalize gcdZ (x2 - x1) (y2 - y1) = G at *
      generalize detZ x1 y1 x2 y2 = D at *
      have hs := hB.size
      clear HMb HSi HVS HE HN HY b0 b1
      go_wp2_with fail
      have hA2 : Below wr.heap.size wr (wr.alloc (.cells #[.int .i64 x2, .int .i64 y2] 41)) := by go_grown
      have e0 : (wr.alloc (.cells #[.int .i64 x2, .int .i64 y2] 41)).cell? ⟨wr.heap.size, 0, none⟩ = some (.int .i64 x2) := by simp
      have e1 : (wr.alloc (.cells #[.int .i64 x2, .int .i64 y2] 41)).cell? ⟨wr.heap.size, 1, none⟩ = some (.int .i64 y2) := by simp
      replace d1 := (hA2.cell (p := ⟨bb, off + k * 2 + 1, none⟩) (cell_lt d0)).trans d1
      replace d0 := (hA2.cell (p := ⟨bb, off + k * 2, none⟩) (cell_lt d0)).trans d0
      have hB2 := hB.trans (hA2.mono hs)
      obtain ⟨B3, hB3⟩ : ∃ B3, B3 = wr.heap.size := ⟨_, rfl⟩
      rw [← hB3] at e0 e1 ⊢
      generalize (wr.alloc (.cells #[.int .i64 x2, .int .i64 y2] 41)) = W3 at *
      clear hA2 hB3 d2 d3 hs hB
      refine wp_region_any (by kernel_rfl) ?_
      try (change wpAny _ _ _ _ _ _ _ (World.drew _))
      refine wpAny_of_held (S := fun w' => Below (W3.heap.size) W3 w') _ _ _ _ ?_
      have hSw : Below (W3.heap.size) W3 (World.drew W3) := by go_grown
      generalize World.drew W3 = wd at hSw ⊢
      refine wpAnyH_take (i := 0) (v := ?_) rfl (by kernel_rfl) (by kernel_rfl) (by kernel_rfl) (fun _ _ _ h => h) (Or.inl ⟨by rfl, ?_⟩) hSw ?_
      rotate_left
      focus (intro w0 hS0; clear hS0; go_simp; try with_reducible rfl)
      refine wpAnyH_take (i := 1) (v := ?_) rfl (by kernel_rfl) (by kernel_rfl) (by kernel_rfl) (fun _ _ _ h => h) (Or.inl ⟨by rfl, ?_⟩) hSw ?_
      rotate_left
      focus (intro w0 hS0; clear hS0; go_simp; try with_reducible rfl)
      refine wpAnyH_take (i := 2) (v := ?_) rfl (by kernel_rfl) (by kernel_rfl) (by kernel_rfl) (fun _ _ _ h => h) (Or.inl ⟨by rfl, ?_⟩) hSw ?_
      rotate_left
      focus (intro w0 hS0; clear hS0; go_simp; try with_reducible rfl)
      refine wpAnyH_take (i := 3) (v := ?_) rfl (by kernel_rfl) (by kernel_rfl) (by kernel_rfl) (fun _ _ _ h => h) (Or.inl ⟨by rfl, ?_⟩) hSw ?_
      rotate_left
      focus (intro w0 hS0; have c0 := (hS0.cell (p := ⟨bb, off + k * 2, none⟩) (cell_lt d0)).trans d0; have c1 := (hS0.cell (p := ⟨bb, off + k * 2 + 1, none⟩) (cell_lt d0)).trans d1; have c2 := (hS0.cell (p := ⟨B3, 0, none⟩) (cell_lt e0)).trans e0; have c3 := (hS0.cell (p := ⟨B3, 1, none⟩) (cell_lt e0)).trans e1; clear hS0; go_simp; try with_reducible rfl)
      refine wpAnyH_take (i := 4) (v := ?_) rfl (by kernel_rfl) (by kernel_rfl) (by kernel_rfl) (fun _ _ _ h => h) (Or.inl ⟨by rfl, ?_⟩) hSw ?_
      rotate_left
      focus (intro w0 hS0; have c0 := (hS0.cell (p := ⟨bb, off + k * 2, none⟩) (cell_lt d0)).trans d0; have c1 := (hS0.cell (p := ⟨bb, off + k * 2 + 1, none⟩) (cell_lt d0)).trans d1; have c2 := (hS0.cell (p := ⟨B3, 0, none⟩) (cell_lt e0)).trans e0; have c3 := (hS0.cell (p := ⟨B3, 1, none⟩) (cell_lt e0)).trans e1; clear hS0; go_simp; try with_reducible rfl)
      refine wpAnyH_ready (rs := [5, 6]) (by kernel_rfl) (by simp) (AllReadyH.cons rfl (fun K hK => ?_) (AllReadyH.cons rfl (fun K hK => ?_) (AllReadyH.nil)))
      focus
        go_simp
        (refine Calls.mono (HW1.out _) ?_; rintro e w4 ⟨rfl, hbX⟩;  replace hSw := belowTo hSw hbX; refine hK.out _ _ hSw (fun _ => ?_); clear hK K hbX)
        refine wpAnyH_ready (rs := [6]) (by kernel_rfl) (by simp) (AllReadyH.cons rfl (fun K hK => ?_) (AllReadyH.nil))
        go_simp
        (have hSa : Below W3.heap.size W3 (w4.alloc (.cells #[.int .i64 0, .int .i64 0] 41)) := hSw.alloc hSw.size _; have Bay0 : (w4.alloc (.cells #[.int .i64 0, .int .i64 0] 41)).cell? ⟨w4.heap.size, 0, none⟩ = some (.int .i64 0) := (by simp); have Bay1 : (w4.alloc (.cells #[.int .i64 0, .int .i64 0] 41)).cell? ⟨w4.heap.size, 1, none⟩ = some (.int .i64 0) := (by simp); have Bayf : ∀ o, (w4.alloc (.cells #[.int .i64 0, .int .i64 0] 41)).frozen? ⟨w4.heap.size, o, none⟩ = false := (fun o => by simp); have Baya := hSw.size; replace hSw := hSa; clear hSa; refine hK.out _ _ hSw (fun _ => ?_); clear hK K; generalize w4.alloc (.cells #[.int .i64 0, .int .i64 0] 41) = wa at *; generalize w4.heap.size = Ba at *)
        refine wpAnyH_ready (rs := [7]) (by kernel_rfl) (by simp) (AllReadyH.cons rfl (fun K hK => ?_) (AllReadyH.nil))
        go_simp
        (have z0 := Bayf 0; have z1 := Bayf 1; have g0 : ((wa.setCell ⟨Ba, 0, none⟩ (.int .i64 (x2 - x1))).setCell ⟨Ba, 1, none⟩ (.int .i64 (y2 - y1))).cell? ⟨Ba, 0, none⟩ = some (.int .i64 (x2 - x1)) := (by first | (go_cell; done) | (go_simp; done) | (simp; done)); have g1 : ((wa.setCell ⟨Ba, 0, none⟩ (.int .i64 (x2 - x1))).setCell ⟨Ba, 1, none⟩ (.int .i64 (y2 - y1))).cell? ⟨Ba, 1, none⟩ = some (.int .i64 (y2 - y1)) := (by first | (go_cell; done) | (go_simp; done) | (simp; done)); have hSE : Below W3.heap.size W3 ((wa.setCell ⟨Ba, 0, none⟩ (.int .i64 (x2 - x1))).setCell ⟨Ba, 1, none⟩ (.int .i64 (y2 - y1))) := (hSw.setCell (p := ⟨Ba, 0, none⟩) Baya _).setCell (p := ⟨Ba, 1, none⟩) Baya _; refine hK.out _ _ hSE (fun _ => ?_); clear hK K hSw Bay0 Bay1 Bayf Baya z0 z1; generalize ((wa.setCell ⟨Ba, 0, none⟩ (.int .i64 (x2 - x1))).setCell ⟨Ba, 1, none⟩ (.int .i64 (y2 - y1))) = W5 at *)
        refine wpAnyH_done (by kernel_rfl) ?_ _
      rotate_left 1
      focus
        go_simp
        (have hSa : Below W3.heap.size W3 (wd.alloc (.cells #[.int .i64 0, .int .i64 0] 41)) := hSw.alloc hSw.size _; have Bay0 : (wd.alloc (.cells #[.int .i64 0, .int .i64 0] 41)).cell? ⟨wd.heap.size, 0, none⟩ = some (.int .i64 0) := (by simp); have Bay1 : (wd.alloc (.cells #[.int .i64 0, .int .i64 0] 41)).cell? ⟨wd.heap.size, 1, none⟩ = some (.int .i64 0) := (by simp); have Bayf : ∀ o, (wd.alloc (.cells #[.int .i64 0, .int .i64 0] 41)).frozen? ⟨wd.heap.size, o, none⟩ = false := (fun o => by simp); have Baya := hSw.size; replace hSw := hSa; clear hSa; refine hK.out _ _ hSw (fun _ => ?_); clear hK K; generalize wd.alloc (.cells #[.int .i64 0, .int .i64 0] 41) = wa at *; generalize wd.heap.size = Ba at *)
        refine wpAnyH_ready (rs := [5]) (by kernel_rfl) (by simp) (AllReadyH.cons rfl (fun K hK => ?_) (AllReadyH.nil))
        go_simp
        (refine Calls.mono (HW1.out _) ?_; rintro e w4 ⟨rfl, hbX⟩; replace Bay1 := (hbX.cell (p := ⟨Ba, 1, none⟩) (cell_lt Bay0)).trans Bay1; replace Bayf := (fun o => (hbX.frozen (p := ⟨Ba, o, none⟩) (cell_lt Bay0)).trans (Bayf o)); replace Bay0 := (hbX.cell (p := ⟨Ba, 0, none⟩) (cell_lt Bay0)).trans Bay0; replace hSw := belowTo hSw hbX; refine hK.out _ _ hSw (fun _ => ?_); clear hK K hbX)
        refine wpAnyH_ready (rs := [7]) (by kernel_rfl) (by simp) (AllReadyH.cons rfl (fun K hK => ?_) (AllReadyH.nil))
        go_simp
        (have z0 := Bayf 0; have z1 := Bayf 1; have g0 : ((w4.setCell ⟨Ba, 0, none⟩ (.int .i64 (x2 - x1))).setCell ⟨Ba, 1, none⟩ (.int .i64 (y2 - y1))).cell? ⟨Ba, 0, none⟩ = some (.int .i64 (x2 - x1)) := (by first | (go_cell; done) | (go_simp; done) | (simp; done)); have g1 : ((w4.setCell ⟨Ba, 0, none⟩ (.int .i64 (x2 - x1))).setCell ⟨Ba, 1, none⟩ (.int .i64 (y2 - y1))).cell? ⟨Ba, 1, none⟩ = some (.int .i64 (y2 - y1)) := (by first | (go_cell; done) | (go_simp; done) | (simp; done)); have hSE : Below W3.heap.size W3 ((w4.setCell ⟨Ba, 0, none⟩ (.int .i64 (x2 - x1))).setCell ⟨Ba, 1, none⟩ (.int .i64 (y2 - y1))) := (hSw.setCell (p := ⟨Ba, 0, none⟩) Baya _).setCell (p := ⟨Ba, 1, none⟩) Baya _; refine hK.out _ _ hSE (fun _ => ?_); clear hK K hSw Bay0 Bay1 Bayf Baya z0 z1; generalize ((w4.setCell ⟨Ba, 0, none⟩ (.int .i64 (x2 - x1))).setCell ⟨Ba, 1, none⟩ (.int .i64 (y2 - y1))) = W5 at *)
        refine wpAnyH_done (by kernel_rfl) ?_ _
      all_goals
        have hB5 := belowTo hB2 hSE
        replace d1 := (hSE.cell (p := ⟨bb, off + k * 2 + 1, none⟩) (cell_lt d0)).trans d1
        replace d0 := (hSE.cell (p := ⟨bb, off + k * 2, none⟩) (cell_lt d0)).trans d0
        replace e1 := (hSE.cell (p := ⟨B3, 1, none⟩) (cell_lt e0)).trans e1
        replace e0 := (hSE.cell (p := ⟨B3, 0, none⟩) (cell_lt e0)).trans e0
        clear hSE hB2
        have s0 := cell_lt d0
        have s1 := cell_lt e0
        have s2 := cell_lt g0
        have hs5 := hB5.size
        go_wp2_with fail
        go_region_held3 (fun w' => w'.cell? ⟨bb, off + k * 2, none⟩ = some (.int .i64 (x1)) ∧ w'.cell? ⟨bb, off + k * 2 + 1, none⟩ = some (.int .i64 (y1)) ∧ w'.cell? ⟨B3, 0, none⟩ = some (.int .i64 (x2)) ∧ w'.cell? ⟨B3, 1, none⟩ = some (.int .i64 (y2)) ∧ w'.cell? ⟨Ba, 0, none⟩ = some (.int .i64 (x2 - x1)) ∧ w'.cell? ⟨Ba, 1, none⟩ = some (.int .i64 (y2 - y1)) ∧ Below W5.heap.size W5 w') ((go_split_ands; refine ⟨by (first | (with_reducible assumption) | (go_keep; done) | (go_cell; done) | (go_simp; done) | (simp [*]; done)), by (first | (with_reducible assumption) | (go_keep; done) | (go_cell; done) | (go_simp; done) | (simp [*]; done)), by (first | (with_reducible assumption) | (go_keep; done) | (go_cell; done) | (go_simp; done) | (simp [*]; done)), by (first | (with_reducible assumption) | (go_keep; done) | (go_cell; done) | (go_simp; done) | (simp [*]; done)), by (first | (with_reducible assumption) | (go_keep; done) | (go_cell; done) | (go_simp; done) | (simp [*]; done)), by (first | (with_reducible assumption) | (go_keep; done) | (go_cell; done) | (go_simp; done) | (simp [*]; done)), by first | (with_reducible assumption) | (go_grown; done)⟩)) (first | (go_at_call 63; go_call (HD.out _) as e w1 ⟨rfl, hb0⟩; go_split_ands; have q0 : w1.cell? ⟨bb, off + k * 2, none⟩ = some (.int .i64 (x1)) := (hb0.cell (p := ⟨bb, off + k * 2, none⟩) (by first | (with_reducible assumption) | (go_size; done) | (simp; omega))).trans (by first | (with_reducible assumption) | (go_keep; done) | (go_cell; done) | (go_simp; done) | (simp [*]; done)); have q1 : w1.cell? ⟨bb, off + k * 2 + 1, none⟩ = some (.int .i64 (y1)) := (hb0.cell (p := ⟨bb, off + k * 2 + 1, none⟩) (by first | (with_reducible assumption) | (go_size; done) | (simp; omega))).trans (by first | (with_reducible assumption) | (go_keep; done) | (go_cell; done) | (go_simp; done) | (simp [*]; done)); have q2 : w1.cell? ⟨B3, 0, none⟩ = some (.int .i64 (x2)) := (hb0.cell (p := ⟨B3, 0, none⟩) (by first | (with_reducible assumption) | (go_size; done) | (simp; omega))).trans (by first | (with_reducible assumption) | (go_keep; done) | (go_cell; done) | (go_simp; done) | (simp [*]; done)); have q3 : w1.cell? ⟨B3, 1, none⟩ = some (.int .i64 (y2)) := (hb0.cell (p := ⟨B3, 1, none⟩) (by first | (with_reducible assumption) | (go_size; done) | (simp; omega))).trans (by first | (with_reducible assumption) | (go_keep; done) | (go_cell; done) | (go_simp; done) | (simp [*]; done)); have q4 : w1.cell? ⟨Ba, 0, none⟩ = some (.int .i64 (x2 - x1)) := (hb0.cell (p := ⟨Ba, 0, none⟩) (by first | (with_reducible assumption) | (go_size; done) | (simp; omega))).trans (by first | (with_reducible assumption) | (go_keep; done) | (go_cell; done) | (go_simp; done) | (simp [*]; done)); have q5 : w1.cell? ⟨Ba, 1, none⟩ = some (.int .i64 (y2 - y1)) := (hb0.cell (p := ⟨Ba, 1, none⟩) (by first | (with_reducible assumption) | (go_size; done) | (simp; omega))).trans (by first | (with_reducible assumption) | (go_keep; done) | (go_cell; done) | (go_simp; done) | (simp [*]; done)); have hs0 : bb < w1.heap.size := Nat.lt_of_lt_of_le (by first | (with_reducible assumption) | (go_size; done) | (simp; omega)) hb0.size; have hs1 : B3 < w1.heap.size := Nat.lt_of_lt_of_le (by first | (with_reducible assumption) | (go_size; done) | (simp; omega)) hb0.size; have hs2 : Ba < w1.heap.size := Nat.lt_of_lt_of_le (by first | (with_reducible assumption) | (go_size; done) | (simp; omega)) hb0.size; have hT : Below W5.heap.size W5 w1 := belowTo (by first | (with_reducible assumption) | (go_grown; done)) hb0; have hTs := hT.size; clear hb0) | (go_at_call 33; go_call (HG.out _) as e w1 ⟨rfl, hb0⟩; go_split_ands; have q0 : w1.cell? ⟨bb, off + k * 2, none⟩ = some (.int .i64 (x1)) := (hb0.cell (p := ⟨bb, off + k * 2, none⟩) (by first | (with_reducible assumption) | (go_size; done) | (simp; omega))).trans (by first | (with_reducible assumption) | (go_keep; done) | (go_cell; done) | (go_simp; done) | (simp [*]; done)); have q1 : w1.cell? ⟨bb, off + k * 2 + 1, none⟩ = some (.int .i64 (y1)) := (hb0.cell (p := ⟨bb, off + k * 2 + 1, none⟩) (by first | (with_reducible assumption) | (go_size; done) | (simp; omega))).trans (by first | (with_reducible assumption) | (go_keep; done) | (go_cell; done) | (go_simp; done) | (simp [*]; done)); have q2 : w1.cell? ⟨B3, 0, none⟩ = some (.int .i64 (x2)) := (hb0.cell (p := ⟨B3, 0, none⟩) (by first | (with_reducible assumption) | (go_size; done) | (simp; omega))).trans (by first | (with_reducible assumption) | (go_keep; done) | (go_cell; done) | (go_simp; done) | (simp [*]; done)); have q3 : w1.cell? ⟨B3, 1, none⟩ = some (.int .i64 (y2)) := (hb0.cell (p := ⟨B3, 1, none⟩) (by first | (with_reducible assumption) | (go_size; done) | (simp; omega))).trans (by first | (with_reducible assumption) | (go_keep; done) | (go_cell; done) | (go_simp; done) | (simp [*]; done)); have q4 : w1.cell? ⟨Ba, 0, none⟩ = some (.int .i64 (x2 - x1)) := (hb0.cell (p := ⟨Ba, 0, none⟩) (by first | (with_reducible assumption) | (go_size; done) | (simp; omega))).trans (by first | (with_reducible assumption) | (go_keep; done) | (go_cell; done) | (go_simp; done) | (simp [*]; done)); have q5 : w1.cell? ⟨Ba, 1, none⟩ = some (.int .i64 (y2 - y1)) := (hb0.cell (p := ⟨Ba, 1, none⟩) (by first | (with_reducible assumption) | (go_size; done) | (simp; omega))).trans (by first | (with_reducible assumption) | (go_keep; done) | (go_cell; done) | (go_simp; done) | (simp [*]; done)); have hs0 : bb < w1.heap.size := Nat.lt_of_lt_of_le (by first | (with_reducible assumption) | (go_size; done) | (simp; omega)) hb0.size; have hs1 : B3 < w1.heap.size := Nat.lt_of_lt_of_le (by first | (with_reducible assumption) | (go_size; done) | (simp; omega)) hb0.size; have hs2 : Ba < w1.heap.size := Nat.lt_of_lt_of_le (by first | (with_reducible assumption) | (go_size; done) | (simp; omega)) hb0.size; have hT : Below W5.heap.size W5 w1 := belowTo (by first | (with_reducible assumption) | (go_grown; done)) hb0; have hTs := hT.size; clear hb0))
        have hBk := hB5.trans (hT.mono hs5)
        by_cases hq2 : D = G
        · have HF := Lib.hid (HE2.out (by rw [HSk.out]; simpa using hq2))
          clear HSk HNk HE2
          go_wp2
          go_roundw
          case rel => exact ⟨k + 1, by omega, by go_num, HF.out, hBk⟩
          case measure => simp [intOf]; omega
        · have HF := Lib.hid (HNk.out (by rw [HSk.out]; simpa using hq2))
          clear HSk HNk HE2
          go_wp2
          go_returns
          exact ⟨by rw [HF.out]; rfl, hBk⟩
    · obtain rfl : k = l.length := by omega
      have i2 : ¬ ((l.length : Nat) : Int) < (l.length : Int) := by omega
      have HF := Lib.hid (HY.out HE.out)
      go_wp2
      go_returns
      exact ⟨by rw [HF.out]; rfl, hB⟩
theorem least_refl {l : List V2} (h : polyB l = true) (hr : allR l = true) : decide (0 < leastZ l (0, 0) (l.length - 1)) = true := by
  have h0 : 0 < l.length := by have := poly_len h; omega
  rw [decide_eq_true_iff]
  have := (least_iff (l := l) (z := (0, 0)) (s := 1) (l.length - 1)).2 (fun i _ => by
    have q := refl_inner (l := l) (by unfold reflB; rw [h, hr]; rfl) i
    unfold detV detZ at q
    unfold sideZ dtV wyV subV
    dsimp only
    have e : ((cyc l (i + 1)).1 - (cyc l i).1) * (0 - (cyc l i).2) - ((cyc l (i + 1)).2 - (cyc l i).2) * (0 - (cyc l i).1) = (cyc l i).1 * (cyc l (i + 1)).2 - (cyc l i).2 * (cyc l (i + 1)).1 := by grind
    rw [e]
    omega)
  omega
set_option maxHeartbeats 4000000 in
theorem specReflexiveIn_any (v : Value) (l : List V2) (w : World) (h : ReadsVecs w v l) :
    Calls Tryz.prog 23 #[v] w fun e w' => e = .returned (.bool (reflB l)) ∧ Below w.heap.size w w' := by
  have HC := Lib.hid (fun w' (hb : Below w.heap.size w w') => specPolygonIn_any v l w' (h.below hb))
  have HL := Lib.hid (fun w' (hb : Below w.heap.size w w') hp => l6gLeast_any v l 0 0 w' (h.below hb) hp (by decide))
  have HI := Lib.hid (fun w' (hb : Below w.heap.size w w') hp => l7In_any v l w' (h.below hb) hp)
  have HZ := Lib.hid (fun hp hr => least_refl (l := l) hp hr)
  obtain ⟨a, c, rfl, _⟩ := h
  unfold reflB
  generalize leastZ l (0, 0) (l.length - 1) = D at *
  generalize allR l = K at *
  cases hk : polyB l
  · rw [hk] at HC
    clear hk HL HZ HI
    go_enter Tryz.func23, Tryz.ntmps23
    go_wp2_with fail
    refine Calls.mono (HC.out _ (by go_grown)) ?_
    rintro e w1 ⟨rfl, hb1⟩
    have hb : Below w.heap.size w w1 := belowTo (by go_grown) hb1
    clear hb1
    go_wp2
    go_returns
    exact ⟨rfl, hb⟩
  · rw [hk] at HC
    have HL2 := Lib.hid (fun w' hb => HL.out w' hb hk)
    have HI2 := Lib.hid (fun w' hb => HI.out w' hb hk)
    have HZ2 := Lib.hid (fun hr => HZ.out hk hr)
    clear hk HL HZ HI
    by_cases hd : 0 < D
    · go_enter Tryz.func23, Tryz.ntmps23
      go_wp2_with fail
      refine Calls.mono (HC.out _ (by go_grown)) ?_
      rintro e w1 ⟨rfl, hb1⟩
      have hb : Below w.heap.size w w1 := belowTo (by go_grown) hb1
      clear hb1
      go_wp2_with fail
      refine Calls.mono (HL2.out _ hb) ?_
      rintro e w2 ⟨rfl, hb2⟩
      replace hb := belowTo hb hb2
      clear hb2
      go_wp2_with fail
      refine Calls.mono (HI2.out _ hb) ?_
      rintro e w3 ⟨rfl, hb3⟩
      replace hb := belowTo hb hb3
      clear hb3
      go_wp2
      go_returns
      exact ⟨by cases K <;> rfl, hb⟩
    · have hK : K = false := by
        cases K
        · rfl
        · have := HZ2.out rfl
          simp at this
          omega
      subst hK
      go_enter Tryz.func23, Tryz.ntmps23
      go_wp2_with fail
      refine Calls.mono (HC.out _ (by go_grown)) ?_
      rintro e w1 ⟨rfl, hb1⟩
      have hb : Below w.heap.size w w1 := belowTo (by go_grown) hb1
      clear hb1
      go_wp2_with fail
      refine Calls.mono (HL2.out _ hb) ?_
      rintro e w2 ⟨rfl, hb2⟩
      replace hb := belowTo hb hb2
      clear hb2
      go_wp2
      go_returns
      exact ⟨rfl, hb⟩
end Go.Proofs.YtkcnpbgbgdgkpaaGreatDoor
