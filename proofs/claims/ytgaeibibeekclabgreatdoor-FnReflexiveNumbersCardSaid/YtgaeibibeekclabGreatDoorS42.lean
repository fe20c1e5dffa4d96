import Derived.Test.YtgaeibibeekclabGreatDoorS38
import Derived.Test.YtgaeibibeekclabGreatDoorS39
import Derived.Test.YtgaeibibeekclabGreatDoorS40
import Derived.Test.YtgaeibibeekclabGreatDoorS41
namespace Go.Proofs.YtgaeibibeekclabGreatDoor
open Go.RowKit
theorem EdgeV.two {n : Nat} {p s : Nat → P2} {g : Nat → Nat} {m : Nat} {E : Nat → P2} {base : Nat → Nat} (k : EdgeV n p s g m E base) (h : ReflV n p s g) (e : Nat) : dtV (E e) (E (e + 2)) ≤ 2 := by
  obtain ⟨i, x, hx, rfl⟩ := k.find h e
  have o := h.one i
  have a1 := k.at1 i x (by omega)
  have a2 := k.at2 i x (by omega)
  rcases Nat.lt_or_ge (x + 1) (g i) with q | q
  · have b1 := k.at1 i (x + 2) (by omega)
    have b2 := k.at2 i (x + 2) (by omega)
    rw [← Nat.add_assoc] at b1 b2
    have e2 : dtV (E (base i + x)) (E (base i + x + 2)) = 2 * dtV (p i) (s i) := by
      unfold dtV
      rw [a1, a2, b1, b2, Int.natCast_add]
      grind
    omega
  · have hg : g i = x + 1 := by omega
    have w1 := h.way1 i
    have w2 := h.way2 i
    have o1 := h.one (i + 1)
    have o2 := h.one' i
    have c := h.cpos i
    have b1 := k.at1 (i + 1) 1 (h.pos _)
    have b2 := k.at2 (i + 1) 1 (h.pos _)
    have eb : base (i + 1) + 1 = base i + x + 2 := by rw [k.succ, hg]; omega
    rw [eb] at b1 b2
    rw [hg, Int.natCast_add] at w1 w2
    have e2 : dtV (E (base i + x)) (E (base i + x + 2)) = dtV (p (i + 1)) (s (i + 1)) + dtV (p (i + 1)) (s i) - dtV (s i) (s (i + 1)) := by
      have x1 : (E (base i + x)).1 = (p (i + 1)).1 - (s i).1 := by rw [a1, w1]; grind
      have x2 : (E (base i + x)).2 = (p (i + 1)).2 - (s i).2 := by rw [a2, w2]; grind
      unfold dtV
      rw [x1, x2, b1, b2]
      grind
    omega
theorem po_all {l : List V2} (h : fanRB l = true) : fanRL l = tidyL (edgL l) ∧ smoothB (fanRL l) = true ∧ convB (fanRL l) = true ∧ ((fanRL l).length : Int) = edgeZ l l.length ∧ (fanRL l).length ≤ 20 := by
  have h' := h
  unfold fanRB at h'
  rw [Bool.and_eq_true] at h'
  obtain ⟨hr, hf⟩ := h'
  have e : fanRL l = tidyL (edgL l) := by unfold fanRL; rw [h]; rfl
  have hE := edg_E hr
  have hV := refl_V hr
  have sm : smoothB (edgL l) = true := smooth_mk hf (fun i => hE.one hV i)
  have st : smoothB (tidyL (edgL l)) = true := smooth_tidy sm
  have hl : (tidyL (edgL l)).length = (edgL l).length := tidyL_len _
  have l3 := edg_len hr
  rw [e]
  refine ⟨rfl, st, ?_, by rw [hl, pn_edg], by omega⟩
  unfold convB
  rw [st, Bool.true_and]
  refine cvx_good (fun k hk => ?_)
  rw [nums_len] at hk
  unfold cvxP
  refine decide_eq_true ?_
  have e1 : gz (numsZ (tidyL (edgL l))) k = numZ (tidyL (edgL l)) k := by
    unfold gz numsZ
    rw [List.getElem?_map, List.getElem?_range hk]
    rfl
  rw [e1]
  unfold numZ
  have hK : tidyK (edgL l) ≤ (edgL l).length := Nat.le_of_lt (tidyK_lt (by omega))
  have hc : ∀ i, cyc (tidyL (edgL l)) i = cyc (edgL l) (tidyK (edgL l) + i) := fun i => by unfold tidyL; exact cyc_rot hK i
  rw [hc, hc, hl]
  have t := hE.two hV (tidyK (edgL l) + (k + (edgL l).length - 1))
  have e3 : cyc (edgL l) (tidyK (edgL l) + (k + (edgL l).length - 1) + 2) = cyc (edgL l) (tidyK (edgL l) + (k + 1)) := by
    rw [show tidyK (edgL l) + (k + (edgL l).length - 1) + 2 = tidyK (edgL l) + (k + 1) + (edgL l).length by omega, cyc_add]
  rw [e3] at t
  have : detV (cyc (edgL l) (tidyK (edgL l) + (k + (edgL l).length - 1))) (cyc (edgL l) (tidyK (edgL l) + (k + 1))) = dtV (cyc (edgL l) (tidyK (edgL l) + (k + (edgL l).length - 1))) (cyc (edgL l) (tidyK (edgL l) + (k + 1))) := rfl
  omega
end Go.Proofs.YtgaeibibeekclabGreatDoor
namespace Go.Proofs.YtgaeibibeekclabGreatDoor
open Go.RowKit
theorem step_quo {g u s x : Int} (hg : 0 < g) (h : u = g * s) : (x * u).tdiv g = x * s := by
  rw [h, show x * (g * s) = g * (x * s) by grind]
  exact Int.mul_tdiv_cancel_left _ (by omega)
theorem way_step {l : List V2} (h : reflB l = true) (k : Nat) : (wayZ l k).1 = gN l k * (stepV l k).1 ∧ (wayZ l k).2 = gN l k * (stepV l k).2 := by
  have a := (refl_V h).way1 k
  have b := (refl_V h).way2 k
  unfold wayZ
  dsimp only
  omega
set_option maxRecDepth 100000 in
set_option maxHeartbeats 32000000 in
theorem specReflexiveFan_any (v : Value) (l : List V2) (w : World) (h : ReadsVecs w v l) :
    Calls Tryz.prog 24 #[v] w (GivesVecsOk w (gV (reflB l && fanB (edgL l)) (tidyL (edgL l))) (reflB l && fanB (edgL l))) := by
  obtain ⟨i0, hi, hz0, hz1, hz2⟩ := info_parts infoVec
  have HC := Lib.hid (fun w' (hb : Below w.heap.size w w') => specReflexiveIn_any v l w' (h.below hb))
  have hE := Lib.hid (fun w' => Vecs.empty w')
  cases hr : reflB l
  · rw [hr] at HC
    obtain ⟨a, c, rfl, _⟩ := h
    clear hr
    go_enter Tryz.func24, Tryz.ntmps24
    go_wp2_with fail
    refine Calls.mono (HC.out _ (by go_grown)) ?_
    rintro e w1 ⟨rfl, hb1⟩
    have hb : Below w.heap.size w w1 := belowTo (by go_grown) hb1
    have HE1 := Lib.hid ((hE.out w).below hb1)
    clear hb1 hE
    go_wp2
    go_returns
    exact ⟨_, rfl, HE1.out, hb⟩
  · rw [hr] at HC
    have hp := (refl_in hr).1
    have h30 := poly_len hp
    have h0 : 0 < l.length := by omega
    rw [Bool.true_and]
    obtain ⟨bb, off, vc, rfl, _, _, hbv, hvs⟩ := h.open h0
    have HVS := Lib.hid hvs
    have HMb := Lib.hid (fun i => poly_small hp i)
    have HPt := Lib.hid (fun i x (hx : x ≤ gN l i) => pt_small hr hx)
    have HGl := Lib.hid (fun k => gN_le hr k)
    have HGp := Lib.hid (fun k => (refl_V hr).pos k)
    have HGe : Hid (∀ k, gcdZ ((cyc l (k + 1)).1 - (cyc l k).1) ((cyc l (k + 1)).2 - (cyc l k).2) = (gN l k : Int)) := fun k => by
      have := gcdZ_nonneg (wayZ l k).1 (wayZ l k).2
      show gcdZ (wayZ l k).1 (wayZ l k).2 = _
      unfold gN
      omega
    have HSt : Hid (∀ k, (cyc l (k + 1)).1 - (cyc l k).1 = gN l k * (stepV l k).1 ∧ (cyc l (k + 1)).2 - (cyc l k).2 = gN l k * (stepV l k).2) := fun k => way_step hr k
    have HKl := Lib.hid (fun k x (hk : k < l.length) (hx : x ≤ gN l k) => edgK_len hr (Nat.le_of_lt hk) (fun _ => hx) (fun c => absurd hk c))
    have HX := Lib.hid (fun k x => pts_succ l k x)
    have HXK := Lib.hid (fun k => edgK_succ l k)
    have HPZ : Hid (∀ k (x : Nat), ptZ l k x = ((cyc l k).1 + (stepV l k).1 * x, (cyc l k).2 + (stepV l k).2 * x)) := fun _ _ => rfl
    have HZ := Lib.hid (edgK_all l)
    have HZ0 := Lib.hid (edgK_zero l)
    have HFo := Lib.hid (fun v' w' hV => specFanOf_any v' (edgL l) w' hV (by have := edg_len hr; omega))
    obtain ⟨e1, e2⟩ := edg_fan hr
    rw [e1, e2] at HFo
    have HLn := Lib.hid (edg_len hr)
    generalize fanB (edgL l) = F at *
    generalize gV F (tidyL (edgL l)) = R at *
    generalize edgL l = N at *
    clear h hvs hp hr e1 e2
    go_enter Tryz.func24, Tryz.ntmps24
    go_wp2_with fail
    refine Calls.mono (HC.out _ (by go_grown)) ?_
    rintro e w1 ⟨rfl, hb1⟩
    have hB1 : Below w.heap.size w w1 := belowTo (by go_grown) hb1
    have HE1 := Lib.hid ((hE.out w).below hb1)
    clear hb1 hE HC
    go_wp2
    go_loopw [4, 5] (fun s4 s5 wr => ∃ k : Nat, k ≤ l.length ∧ s5 = .int .i64 k ∧ Hid (Vecs wr w.heap.size s4 (edgK l k)) ∧ Below w.heap.size w wr) (fun _ s5 _ => l.length - (intOf s5).toNat)
    case atStart => exact ⟨0, Nat.zero_le _, rfl, by rw [HZ0.out]; exact HE1.out, hB1⟩
    case round =>
      obtain ⟨k, hk, rfl, HI, hB⟩ := hrel
      have i1 : (0 : Int) ≤ (k : Int) := by omega
      by_cases hlt : k < l.length
      · have i2 : (k : Int) < (l.length : Int) := by omega
        have hq : (k + 1) % l.length < l.length := Nat.mod_lt _ h0
        have j3 : (0 : Int) ≤ (((k + 1) % l.length : Nat) : Int) := by omega
        have j4 : (((k + 1) % l.length : Nat) : Int) < (l.length : Int) := by omega
        have j5 : ¬ (l.length : Int) = 0 := by omega
        have j6 : ((l.length : Int) == 0) = false := by simpa using j5
        have j7 : ¬ l.length = 0 := by omega
        have t2 := next_is k l.length
        have q0 : IntKind.i64.wrap ((k : Int) + 1) = (k : Int) + 1 := by rw [IntKind.wrap_i64]; omega
        obtain ⟨d0, d1⟩ := HVS.out wr hB k hlt
        obtain ⟨d2, d3⟩ := HVS.out wr hB _ hq
        rw [cyc_mod] at d2 d3
        have b0 := HMb.out k
        have b1 := HMb.out (k + 1)
        have HCk := Lib.hid (fun w' hw => HVS.out w' hw k hlt)
        have HKk := Lib.hid (fun x hx => HKl.out k x hlt hx)
        have HXk := Lib.hid (fun x => HX.out k x)
        have HXKk := Lib.hid (HXK.out k)
        have HPk := Lib.hid (fun x => HPt.out k x)
        have HPZk := Lib.hid (fun x => HPZ.out k x)
        have hgl := HGl.out k
        have hgp := HGp.out k
        have hge := HGe.out k
        have hst := HSt.out k
        generalize ptZ l k = PT at *
        generalize gN l k = G at *
        generalize stepV l k = S at *
        generalize cyc l k = V at *
        generalize cyc l (k + 1) = U at *
        obtain ⟨x1, y1⟩ := V
        obtain ⟨x2, y2⟩ := U
        obtain ⟨sx, sy⟩ := S
        dsimp only at d0 d1 d2 d3 b0 b1 hge hst HCk HPZk
        generalize (k + 1) % l.length = q at *
        have HW1 := Lib.hid (fun w' => l6gWay_any x1 y1 x2 y2 w' (by unfold big; omega) (by unfold big; omega))
        have HG := Lib.hid (fun w' => l1Gcd_any (x2 - x1) (y2 - y1) w' (by omega) (by omega))
        rw [hge] at HG
        have HSt2 := Lib.hid hst
        have HUb : Hid ((-200 ≤ x2 - x1 ∧ x2 - x1 ≤ 200) ∧ -200 ≤ y2 - y1 ∧ y2 - y1 ≤ 200) := by show _ ∧ _; omega
        have HVb : Hid ((-100 ≤ x1 ∧ x1 ≤ 100) ∧ -100 ≤ y1 ∧ y1 ≤ 100) := b0
        have hs := hB.size
        have HO0 := Lib.hid (fun B (hB : wr.heap.size ≤ B) => own_ne (n := 0) HI.out hB rfl)
        clear HMb HVS HX HXK HPZ HKl HPt HGl HGp HGe HSt b0 b1 hge hst HZ0
        go_wp2_with fail
        have hA2 : Below wr.heap.size wr (wr.alloc (.cells #[.int .i64 x2, .int .i64 y2] 55)) := by go_grown
        have e0 : (wr.alloc (.cells #[.int .i64 x2, .int .i64 y2] 55)).cell? ⟨wr.heap.size, 0, none⟩ = some (.int .i64 x2) := by simp
        have e1 : (wr.alloc (.cells #[.int .i64 x2, .int .i64 y2] 55)).cell? ⟨wr.heap.size, 1, none⟩ = some (.int .i64 y2) := by simp
        replace d1 := (hA2.cell (p := ⟨bb, off + k * 2 + 1, none⟩) (cell_lt d0)).trans d1
        replace d0 := (hA2.cell (p := ⟨bb, off + k * 2, none⟩) (cell_lt d0)).trans d0
        have hB2 := hB.trans (hA2.mono hs)
        replace HI := Lib.hid (HI.out.below hA2)
        have HA3 := Lib.hid hA2.size
        obtain ⟨B3, hB3⟩ : ∃ B3, B3 = wr.heap.size := ⟨_, rfl⟩
        rw [← hB3] at e0 e1 HO0 HA3 ⊢
        generalize (wr.alloc (.cells #[.int .i64 x2, .int .i64 y2] 55)) = W3 at *
        clear hA2 hB3 d2 d3 hs hB
        refine wp_region_any (by kernel_rfl) ?_
        try (change wpAny _ _ _ _ _ _ _ (World.drew _))
        refine wpAny_of_held (S := fun w' => Below (W3.heap.size) W3 w') _ _ _ _ ?_
        have hSw : Below (W3.heap.size) W3 (World.drew W3) := by go_grown
        generalize World.drew W3 = wd at hSw ⊢
        refine wpAnyH_take (i := 0) (v := ?_) rfl (by kernel_rfl) (by kernel_rfl) (by kernel_rfl) (fun _ _ _ h => h) (Or.inl ⟨by rfl, ?_⟩) hSw ?_
        rotate_left
        focus (intro w0 hS0; clear hS0; go_simp; try with_reducible rfl)
        refine wpAnyH_take (i := 1) (v := ?_) rfl (by kernel_rfl) (by kernel_rfl) (by kernel_rfl) (fun _ _ _ h => h) (Or.inl ⟨by rfl, ?_⟩) hSw ?_
        rotate_left
        focus (intro w0 hS0; clear hS0; go_simp; try with_reducible rfl)
        refine wpAnyH_take (i := 2) (v := ?_) rfl (by kernel_rfl) (by kernel_rfl) (by kernel_rfl) (fun _ _ _ h => h) (Or.inl ⟨by rfl, ?_⟩) hSw ?_
        rotate_left
        focus (intro w0 hS0; clear hS0; go_simp; try with_reducible rfl)
        refine wpAnyH_take (i := 3) (v := ?_) rfl (by kernel_rfl) (by kernel_rfl) (by kernel_rfl) (fun _ _ _ h => h) (Or.inl ⟨by rfl, ?_⟩) hSw ?_
        rotate_left
        focus (intro w0 hS0; have c0 := (hS0.cell (p := ⟨bb, off + k * 2, none⟩) (cell_lt d0)).trans d0; have c1 := (hS0.cell (p := ⟨bb, off + k * 2 + 1, none⟩) (cell_lt d0)).trans d1; have c2 := (hS0.cell (p := ⟨B3, 0, none⟩) (cell_lt e0)).trans e0; have c3 := (hS0.cell (p := ⟨B3, 1, none⟩) (cell_lt e0)).trans e1; clear hS0; go_simp; try with_reducible rfl)
        refine wpAnyH_take (i := 4) (v := ?_) rfl (by kernel_rfl) (by kernel_rfl) (by kernel_rfl) (fun _ _ _ h => h) (Or.inl ⟨by rfl, ?_⟩) hSw ?_
        rotate_left
        focus (intro w0 hS0; have c0 := (hS0.cell (p := ⟨bb, off + k * 2, none⟩) (cell_lt d0)).trans d0; have c1 := (hS0.cell (p := ⟨bb, off + k * 2 + 1, none⟩) (cell_lt d0)).trans d1; have c2 := (hS0.cell (p := ⟨B3, 0, none⟩) (cell_lt e0)).trans e0; have c3 := (hS0.cell (p := ⟨B3, 1, none⟩) (cell_lt e0)).trans e1; clear hS0; go_simp; try with_reducible rfl)
        refine wpAnyH_ready (rs := [5, 6]) (by kernel_rfl) (by simp) (AllReadyH.cons rfl (fun K hK => ?_) (AllReadyH.cons rfl (fun K hK => ?_) (AllReadyH.nil)))
        focus
          go_simp
          (refine Calls.mono (HW1.out _) ?_; rintro e w4 ⟨rfl, hbX⟩;  replace hSw := belowTo hSw hbX; refine hK.out _ _ hSw (fun _ => ?_); clear hK K hbX)
          refine wpAnyH_ready (rs := [6]) (by kernel_rfl) (by simp) (AllReadyH.cons rfl (fun K hK => ?_) (AllReadyH.nil))
          go_simp
          (have hSa : Below W3.heap.size W3 (w4.alloc (.cells #[.int .i64 0, .int .i64 0] 55)) := hSw.alloc hSw.size _; have Bay0 : (w4.alloc (.cells #[.int .i64 0, .int .i64 0] 55)).cell? ⟨w4.heap.size, 0, none⟩ = some (.int .i64 0) := (by simp); have Bay1 : (w4.alloc (.cells #[.int .i64 0, .int .i64 0] 55)).cell? ⟨w4.heap.size, 1, none⟩ = some (.int .i64 0) := (by simp); have Bayf : ∀ o, (w4.alloc (.cells #[.int .i64 0, .int .i64 0] 55)).frozen? ⟨w4.heap.size, o, none⟩ = false := (fun o => by simp); have Baya := hSw.size; replace hSw := hSa; clear hSa; refine hK.out _ _ hSw (fun _ => ?_); clear hK K; generalize w4.alloc (.cells #[.int .i64 0, .int .i64 0] 55) = wa at *; generalize w4.heap.size = Ba at *)
          refine wpAnyH_ready (rs := [7]) (by kernel_rfl) (by simp) (AllReadyH.cons rfl (fun K hK => ?_) (AllReadyH.nil))
          go_simp
          (have z0 := Bayf 0; have z1 := Bayf 1; have g0 : ((wa.setCell ⟨Ba, 0, none⟩ (.int .i64 (x2 - x1))).setCell ⟨Ba, 1, none⟩ (.int .i64 (y2 - y1))).cell? ⟨Ba, 0, none⟩ = some (.int .i64 (x2 - x1)) := (by first | (go_cell; done) | (go_simp; done) | (simp; done)); have g1 : ((wa.setCell ⟨Ba, 0, none⟩ (.int .i64 (x2 - x1))).setCell ⟨Ba, 1, none⟩ (.int .i64 (y2 - y1))).cell? ⟨Ba, 1, none⟩ = some (.int .i64 (y2 - y1)) := (by first | (go_cell; done) | (go_simp; done) | (simp; done)); have hSE : Below W3.heap.size W3 ((wa.setCell ⟨Ba, 0, none⟩ (.int .i64 (x2 - x1))).setCell ⟨Ba, 1, none⟩ (.int .i64 (y2 - y1))) := (hSw.setCell (p := ⟨Ba, 0, none⟩) Baya _).setCell (p := ⟨Ba, 1, none⟩) Baya _; refine hK.out _ _ hSE (fun _ => ?_); clear hK K hSw Bay0 Bay1 Bayf z0 z1; generalize ((wa.setCell ⟨Ba, 0, none⟩ (.int .i64 (x2 - x1))).setCell ⟨Ba, 1, none⟩ (.int .i64 (y2 - y1))) = W5 at *)
          refine wpAnyH_done (by kernel_rfl) ?_ _
        rotate_left 1
        focus
          go_simp
          (have hSa : Below W3.heap.size W3 (wd.alloc (.cells #[.int .i64 0, .int .i64 0] 55)) := hSw.alloc hSw.size _; have Bay0 : (wd.alloc (.cells #[.int .i64 0, .int .i64 0] 55)).cell? ⟨wd.heap.size, 0, none⟩ = some (.int .i64 0) := (by simp); have Bay1 : (wd.alloc (.cells #[.int .i64 0, .int .i64 0] 55)).cell? ⟨wd.heap.size, 1, none⟩ = some (.int .i64 0) := (by simp); have Bayf : ∀ o, (wd.alloc (.cells #[.int .i64 0, .int .i64 0] 55)).frozen? ⟨wd.heap.size, o, none⟩ = false := (fun o => by simp); have Baya := hSw.size; replace hSw := hSa; clear hSa; refine hK.out _ _ hSw (fun _ => ?_); clear hK K; generalize wd.alloc (.cells #[.int .i64 0, .int .i64 0] 55) = wa at *; generalize wd.heap.size = Ba at *)
          refine wpAnyH_ready (rs := [5]) (by kernel_rfl) (by simp) (AllReadyH.cons rfl (fun K hK => ?_) (AllReadyH.nil))
          go_simp
          (refine Calls.mono (HW1.out _) ?_; rintro e w4 ⟨rfl, hbX⟩; replace Bay1 := (hbX.cell (p := ⟨Ba, 1, none⟩) (cell_lt Bay0)).trans Bay1; replace Bayf := (fun o => (hbX.frozen (p := ⟨Ba, o, none⟩) (cell_lt Bay0)).trans (Bayf o)); replace Bay0 := (hbX.cell (p := ⟨Ba, 0, none⟩) (cell_lt Bay0)).trans Bay0; replace hSw := belowTo hSw hbX; refine hK.out _ _ hSw (fun _ => ?_); clear hK K hbX)
          refine wpAnyH_ready (rs := [7]) (by kernel_rfl) (by simp) (AllReadyH.cons rfl (fun K hK => ?_) (AllReadyH.nil))
          go_simp
          (have z0 := Bayf 0; have z1 := Bayf 1; have g0 : ((w4.setCell ⟨Ba, 0, none⟩ (.int .i64 (x2 - x1))).setCell ⟨Ba, 1, none⟩ (.int .i64 (y2 - y1))).cell? ⟨Ba, 0, none⟩ = some (.int .i64 (x2 - x1)) := (by first | (go_cell; done) | (go_simp; done) | (simp; done)); have g1 : ((w4.setCell ⟨Ba, 0, none⟩ (.int .i64 (x2 - x1))).setCell ⟨Ba, 1, none⟩ (.int .i64 (y2 - y1))).cell? ⟨Ba, 1, none⟩ = some (.int .i64 (y2 - y1)) := (by first | (go_cell; done) | (go_simp; done) | (simp; done)); have hSE : Below W3.heap.size W3 ((w4.setCell ⟨Ba, 0, none⟩ (.int .i64 (x2 - x1))).setCell ⟨Ba, 1, none⟩ (.int .i64 (y2 - y1))) := (hSw.setCell (p := ⟨Ba, 0, none⟩) Baya _).setCell (p := ⟨Ba, 1, none⟩) Baya _; refine hK.out _ _ hSE (fun _ => ?_); clear hK K hSw Bay0 Bay1 Bayf z0 z1; generalize ((w4.setCell ⟨Ba, 0, none⟩ (.int .i64 (x2 - x1))).setCell ⟨Ba, 1, none⟩ (.int .i64 (y2 - y1))) = W5 at *)
          refine wpAnyH_done (by kernel_rfl) ?_ _
        all_goals
          have hB5 := belowTo hB2 hSE
          replace HI := Lib.hid (HI.out.below hSE)
          have HOa := Lib.hid (HO0.out Ba (Nat.le_trans HA3.out Baya))
          clear hSE hB2 d0 d1 e0 e1 HO0 HA3 Baya
          go_wp2_with fail
          refine Calls.mono (HG.out _) ?_
          rintro e w6 ⟨rfl, hb6⟩
          have z0 := (hb6.cell (p := ⟨Ba, 0, none⟩) (cell_lt g0)).trans g0
          have z1 := (hb6.cell (p := ⟨Ba, 1, none⟩) (cell_lt g0)).trans g1
          replace HI := Lib.hid (HI.out.below hb6)
          have hB6 := belowTo hB5 hb6
          clear hb6 hB5 g0 g1 HG
          go_wp2
          go_loopw [4, 9] (fun s4 s wi => ∃ x : Nat, x ≤ G ∧ s = .int .i64 x ∧ Hid (Vecs wi w.heap.size s4 (edgK l k ++ (List.range x).map PT)) ∧ Hid (Value.ownBlock s4 ≠ some Ba) ∧ wi.cell? ⟨Ba, 0, none⟩ = some (.int .i64 (x2 - x1)) ∧ wi.cell? ⟨Ba, 1, none⟩ = some (.int .i64 (y2 - y1)) ∧ Below w.heap.size w wi) (fun _ s _ => G - (intOf s).toNat)
          case atStart => exact ⟨0, Nat.zero_le _, rfl, by show Vecs _ _ _ (edgK l k ++ []); rw [List.append_nil]; exact HI.out, HOa.out, z0, z1, hB6⟩
          case round =>
            obtain ⟨x, hx, rfl, HI3, HO3, s0, s1, hBi⟩ := hrel
            have j1 : (0 : Int) ≤ (x : Int) := by omega
            by_cases hxl : x < G
            · have j2 : (x : Int) < (G : Int) := by omega
              obtain ⟨c0, c1⟩ := HCk.out _ hBi
              have hpt := HPk.out x hx
              have hkl := HKk.out x hx
              have hpz := HPZk.out x
              rw [hpz] at hpt
              dsimp only at hpt
              have HXx := Lib.hid (HXk.out x)
              rw [hpz] at HXx
              obtain ⟨L, hL⟩ : ∃ L, L = edgK l k ++ (List.range x).map PT := ⟨_, rfl⟩
              have HLe := Lib.hid hL
              rw [← hL] at hkl HI3
              obtain ⟨M, hM⟩ : ∃ M, M = L.length := ⟨_, rfl⟩
              rw [← hM] at hkl
              have HNe := Lib.hid hM
              have dx := step_quo (x := (x : Int)) (show (0 : Int) < (G : Int) by omega) HSt2.out.1
              have dy := step_quo (x := (x : Int)) (show (0 : Int) < (G : Int) by omega) HSt2.out.2
              have mx := HUb.out
              have hvb := HVb.out
              have bx := Int.mul_le_mul_of_nonneg_left (show x2 - x1 ≤ 200 by omega) j1
              have bx' := Int.mul_le_mul_of_nonneg_left (show -200 ≤ x2 - x1 by omega) j1
              have by1 := Int.mul_le_mul_of_nonneg_left (show y2 - y1 ≤ 200 by omega) j1
              have by1' := Int.mul_le_mul_of_nonneg_left (show -200 ≤ y2 - y1 by omega) j1
              obtain ⟨ux, hux⟩ : ∃ ux, ux = x2 - x1 := ⟨_, rfl⟩
              obtain ⟨uy, huy⟩ : ∃ uy, uy = y2 - y1 := ⟨_, rfl⟩
              have HUX := Lib.hid hux
              have HUY := Lib.hid huy
              rw [← hux] at s0 dx bx bx' mx
              rw [← huy] at s1 dy by1 by1' mx
              obtain ⟨PX, hPX⟩ : ∃ PX, PX = (x : Int) * ux := ⟨_, rfl⟩
              obtain ⟨PY, hPY⟩ : ∃ PY, PY = (x : Int) * uy := ⟨_, rfl⟩
              have m1 : IntKind.i64.wrap ((x : Int) * ux) = PX := by rw [IntKind.wrap_i64, hPX]; omega
              have m2 : IntKind.i64.wrap ((x : Int) * uy) = PY := by rw [IntKind.wrap_i64, hPY]; omega
              rw [← hPX] at dx
              rw [← hPY] at dy
              obtain ⟨QX, hQX⟩ : ∃ QX, QX = sx * (x : Int) := ⟨_, rfl⟩
              obtain ⟨QY, hQY⟩ : ∃ QY, QY = sy * (x : Int) := ⟨_, rfl⟩
              rw [← hQX, ← hQY] at hpt HXx
              rw [Int.mul_comm, ← hQX] at dx
              rw [Int.mul_comm, ← hQY] at dy
              have n1 : IntKind.i64.wrap QX = QX := by rw [IntKind.wrap_i64]; omega
              have n2 : IntKind.i64.wrap QY = QY := by rw [IntKind.wrap_i64]; omega
              obtain ⟨RX, hRX⟩ : ∃ RX, RX = x1 + QX := ⟨_, rfl⟩
              obtain ⟨RY, hRY⟩ : ∃ RY, RY = y1 + QY := ⟨_, rfl⟩
              have o1 : IntKind.i64.wrap (x1 + QX) = RX := by rw [IntKind.wrap_i64, hRX]; omega
              have o2 : IntKind.i64.wrap (y1 + QY) = RY := by rw [IntKind.wrap_i64, hRY]; omega
              rw [← hRX, ← hRY] at HXx
              have g5 : ¬ (G : Int) = 0 := by omega
              have g6 : ((G : Int) == 0) = false := by simpa using g5
              have g7 : ¬ G = 0 := by omega
              have g8 : 0 < G := by omega
              have hown := HI3.out
              unfold Vecs VRow at hown
              rw [← HNe.out] at hown
              have HOw := Lib.hid (World.ownsRow.drew hown)
              have hwsz := hBi.size
              have HBi := Lib.hid hBi
              have hbl := cell_lt c0
              have hbw : bb < w.heap.size := hbv
              clear hL hM hpz hpt bx bx' by1 by1' mx hvb hux huy hPX hPY hQX hQY hRX hRY hown HI3 hBi HCk HKk HXk HPk HPZk
              go_wp2
              refine wp_region_any (by kernel_rfl) ?_
              try (change wpAny _ _ _ _ _ _ _ (World.drew _))
              refine wpAny_of_held (S := fun w' => Below (w.heap.size) wr w') _ _ _ _ ?_
              have hSw : Below (w.heap.size) wr (World.drew wr) := by go_grown
              generalize hwd : World.drew wr = wd at hSw ⊢
              refine wpAnyH_take (i := 0) (v := ?_) rfl (by kernel_rfl) (by kernel_rfl) (by kernel_rfl) (fun _ _ _ h => h) (Or.inl ⟨by rfl, ?_⟩) hSw ?_
              rotate_left
              focus (intro w0 hS0; clear hS0; go_simp; try with_reducible rfl)
              refine wpAnyH_take (i := 1) (v := ?_) rfl (by kernel_rfl) (by kernel_rfl) (by kernel_rfl) (fun _ _ _ h => h) (Or.inl ⟨by rfl, ?_⟩) hSw ?_
              rotate_left
              focus (intro w0 hS0; clear hS0; go_simp; try with_reducible rfl)
              refine wpAnyH_take (i := 2) (v := ?_) rfl (by kernel_rfl) (by kernel_rfl) (by kernel_rfl) (fun _ _ _ h => h) (Or.inl ⟨by rfl, ?_⟩) hSw ?_
              rotate_left
              focus (intro w0 hS0; clear hS0; go_simp; try with_reducible rfl)
              refine wpAnyH_take (i := 3) (v := ?_) rfl (by kernel_rfl) (by kernel_rfl) (by kernel_rfl) (fun _ _ _ h => h) (Or.inl ⟨by rfl, ?_⟩) hSw ?_
              rotate_left
              focus (intro w0 hS0; clear hS0; go_simp; try with_reducible rfl)
              refine wpAnyH_take (i := 4) (v := ?_) rfl (by kernel_rfl) (by kernel_rfl) (by kernel_rfl) (fun _ _ _ h => h) (Or.inl ⟨by rfl, ?_⟩) hSw ?_
              rotate_left
              focus (intro w0 hS0; clear hS0; go_simp; try with_reducible rfl)
              refine wpAnyH_take (i := 5) (v := ?_) rfl (by kernel_rfl) (by kernel_rfl) (by kernel_rfl) (fun _ _ _ h => h) (Or.inl ⟨by rfl, ?_⟩) hSw ?_
              rotate_left
              focus (intro w0 hS0; have f0 := (hS0.cell (p := ⟨bb, off + k * 2, none⟩) hbw).trans c0; have f1 := (hS0.cell (p := ⟨bb, off + k * 2 + 1, none⟩) hbw).trans c1; clear hS0; go_simp; try with_reducible rfl)
              refine wpAnyH_take (i := 6) (v := ?_) rfl (by kernel_rfl) (by kernel_rfl) (by kernel_rfl) (fun _ _ _ h => h) (Or.inl ⟨by rfl, ?_⟩) hSw ?_
              rotate_left
              focus (intro w0 hS0; clear hS0; go_simp; try with_reducible rfl)
              refine wpAnyH_take (i := 7) (v := ?_) rfl (by kernel_rfl) (by kernel_rfl) (by kernel_rfl) (fun _ _ _ h => h) (Or.inl ⟨by rfl, ?_⟩) hSw ?_
              rotate_left
              focus (intro w0 hS0; clear hS0; go_simp; try with_reducible rfl)
              refine wpAnyH_take (i := 10) (v := ?_) rfl (by kernel_rfl) (by kernel_rfl) (by kernel_rfl) (fun _ _ _ h => h) (Or.inl ⟨by rfl, ?_⟩) hSw ?_
              rotate_left
              focus (intro w0 hS0; clear hS0; go_simp; try with_reducible rfl)
              refine wpAnyH_take (i := 13) (v := ?_) rfl (by kernel_rfl) (by kernel_rfl) (by kernel_rfl) (fun _ _ _ h => h) (Or.inl ⟨by rfl, ?_⟩) hSw ?_
              rotate_left
              focus (intro w0 hS0; clear hS0; go_simp; try with_reducible rfl)
              refine wpAnyH_take (i := 14) (v := ?_) rfl (by kernel_rfl) (by kernel_rfl) (by kernel_rfl) (fun _ _ _ h => h) (Or.inl ⟨by rfl, ?_⟩) hSw ?_
              rotate_left
              focus (intro w0 hS0; clear hS0; go_simp; try with_reducible rfl)
              refine wpAnyH_take (i := 15) (v := ?_) rfl (by kernel_rfl) (by kernel_rfl) (by kernel_rfl) (fun _ _ _ h => h) (Or.inl ⟨by rfl, ?_⟩) hSw ?_
              rotate_left
              focus (intro w0 hS0; clear hS0; go_simp; try with_reducible rfl)
              refine wpAnyH_take (i := 16) (v := ?_) rfl (by kernel_rfl) (by kernel_rfl) (by kernel_rfl) (fun _ _ _ h => h) (Or.inl ⟨by rfl, ?_⟩) hSw ?_
              rotate_left
              focus (intro w0 hS0; clear hS0; go_simp; try with_reducible rfl)
              refine wpAnyH_take (i := 17) (v := ?_) rfl (by kernel_rfl) (by kernel_rfl) (by kernel_rfl) (fun _ _ _ h => h) (Or.inl ⟨by rfl, ?_⟩) hSw ?_
              rotate_left
              focus (intro w0 hS0; have f0 := (hS0.cell (p := ⟨bb, off + k * 2, none⟩) hbw).trans c0; have f1 := (hS0.cell (p := ⟨bb, off + k * 2 + 1, none⟩) hbw).trans c1; clear hS0; go_simp; try with_reducible rfl)
              refine wpAnyH_take (i := 18) (v := ?_) rfl (by kernel_rfl) (by kernel_rfl) (by kernel_rfl) (fun _ _ _ h => h) (Or.inl ⟨by rfl, ?_⟩) hSw ?_
              rotate_left
              focus (intro w0 hS0; clear hS0; go_simp; try with_reducible rfl)
              refine wpAnyH_take (i := 19) (v := ?_) rfl (by kernel_rfl) (by kernel_rfl) (by kernel_rfl) (fun _ _ _ h => h) (Or.inl ⟨by rfl, ?_⟩) hSw ?_
              rotate_left
              focus (intro w0 hS0; clear hS0; go_simp; try with_reducible rfl)
              refine wpAnyH_take (i := 22) (v := ?_) rfl (by kernel_rfl) (by kernel_rfl) (by kernel_rfl) (fun _ _ _ h => h) (Or.inl ⟨by rfl, ?_⟩) hSw ?_
              rotate_left
              focus (intro w0 hS0; clear hS0; go_simp; try with_reducible rfl)
              refine wpAnyH_ready (rs := [8, 20]) (by kernel_rfl) (by simp) (AllReadyH.cons rfl (fun K hK => ?_) (AllReadyH.cons rfl (fun K hK => ?_) (AllReadyH.nil)))
              focus
                (have s0d : wd.cell? ⟨Ba, 0, none⟩ = some (.int .i64 ux) := (by rw [← hwd]; exact s0); go_simp; refine hK.out _ _ hSw (fun _ => ?_); clear hK K)
                refine wpAnyH_take (i := 9) (v := ?_) rfl (by kernel_rfl) (by kernel_rfl) (by kernel_rfl) (fun _ _ _ h => h) (Or.inl ⟨by rfl, ?_⟩) hSw ?_
                rotate_left
                focus (intro w0 hS0; clear hS0; go_simp; try with_reducible rfl)
                refine wpAnyH_take (i := 11) (v := ?_) rfl (by kernel_rfl) (by kernel_rfl) (by kernel_rfl) (fun _ _ _ h => h) (Or.inl ⟨by rfl, ?_⟩) hSw ?_
                rotate_left
                focus (intro w0 hS0; clear hS0; go_simp; try with_reducible rfl)
                refine wpAnyH_take (i := 12) (v := ?_) rfl (by kernel_rfl) (by kernel_rfl) (by kernel_rfl) (fun _ _ _ h => h) (Or.inl ⟨by rfl, ?_⟩) hSw ?_
                rotate_left
                focus (intro w0 hS0; clear hS0; go_simp; try with_reducible rfl)
                refine wpAnyH_ready (rs := [20]) (by kernel_rfl) (by simp) (AllReadyH.cons rfl (fun K hK => ?_) (AllReadyH.nil))
                (have s1d : wd.cell? ⟨Ba, 1, none⟩ = some (.int .i64 uy) := (by rw [← hwd]; exact s1); go_simp; refine hK.out _ _ hSw (fun _ => ?_); clear hK K)
                refine wpAnyH_take (i := 21) (v := ?_) rfl (by kernel_rfl) (by kernel_rfl) (by kernel_rfl) (fun _ _ _ h => h) (Or.inl ⟨by rfl, ?_⟩) hSw ?_
                rotate_left
                focus (intro w0 hS0; clear hS0; go_simp; try with_reducible rfl)
                refine wpAnyH_take (i := 23) (v := ?_) rfl (by kernel_rfl) (by kernel_rfl) (by kernel_rfl) (fun _ _ _ h => h) (Or.inl ⟨by rfl, ?_⟩) hSw ?_
                rotate_left
                focus (intro w0 hS0; clear hS0; go_simp; try with_reducible rfl)
                refine wpAnyH_take (i := 24) (v := ?_) rfl (by kernel_rfl) (by kernel_rfl) (by kernel_rfl) (fun _ _ _ h => h) (Or.inl ⟨by rfl, ?_⟩) hSw ?_
                rotate_left
                focus (intro w0 hS0; clear hS0; go_simp; try with_reducible rfl)
                refine wpAnyH_take (i := 25) (v := ?_) rfl (by kernel_rfl) (by kernel_rfl) (by kernel_rfl) (fun _ _ _ h => h) (Or.inl ⟨by rfl, ?_⟩) hSw ?_
                rotate_left
                focus (intro w0 hS0; clear hS0; go_simp; try with_reducible rfl)
                refine wpAnyH_ready (rs := [26]) (by kernel_rfl) (by simp) (AllReadyH.cons rfl (fun K hK => ?_) (AllReadyH.nil))
                go_simp
                (have hwz : w.heap.size ≤ wd.heap.size := (by rw [← hwd]; exact hwsz); have HOz := HOw; rw [hwd] at HOz; replace hSw := hSw.alloc hwz (.cells #[.int .i64 RX, .int .i64 RY] 55); refine hK.out _ _ hSw (fun _ => ?_); clear hK K)
                refine wpAnyH_ready (rs := [27]) (by kernel_rfl) (by simp) (AllReadyH.cons rfl (fun K hK => ?_) (AllReadyH.nil))
                (refine step_list (by rintro ⟨_, _, h⟩; obtain ⟨_, hv, _⟩ := h; cases hv) (by kernel_rfl) ?_; refine wpList_append_own_at _ rfl _ _ 23 rfl w.heap.size 55 i0 (.agg #[.int .i64 (0), .int .i64 (0)]) 2 16 Tryz.underlying23 hi hz0 hz1 hz2 rfl (by decide) _ _ _ rfl (HOz.out.alloc _) ⟨_, 0, none⟩ 1 1 [.int .i64 RX, .int .i64 RY] rfl rfl (ptC_cells _ RX RY _) (ptC_one RX RY) (by unfold maxLen; omega) (by omega) (by simp; omega) ?_; intro v' w4 hown' hgrow _ hob; replace hSw := hSw.grown hgrow (by simp; omega) (fun k hk => (HOz.out.lt k hk).1); refine hK.out _ _ hSw (fun _ => ?_); clear hK K)
                refine wpAnyH_take (i := 28) (v := ?_) rfl (by kernel_rfl) (by kernel_rfl) (by kernel_rfl) (fun _ _ _ h => h) (Or.inl ⟨by rfl, ?_⟩) hSw ?_
                rotate_left
                focus (intro w0 hS0; clear hS0; go_simp; try with_reducible rfl)
                refine wpAnyH_done (by kernel_rfl) ?_ _
              rotate_left 1
              focus
                (have s1d : wd.cell? ⟨Ba, 1, none⟩ = some (.int .i64 uy) := (by rw [← hwd]; exact s1); go_simp; refine hK.out _ _ hSw (fun _ => ?_); clear hK K)
                refine wpAnyH_take (i := 21) (v := ?_) rfl (by kernel_rfl) (by kernel_rfl) (by kernel_rfl) (fun _ _ _ h => h) (Or.inl ⟨by rfl, ?_⟩) hSw ?_
                rotate_left
                focus (intro w0 hS0; clear hS0; go_simp; try with_reducible rfl)
                refine wpAnyH_take (i := 23) (v := ?_) rfl (by kernel_rfl) (by kernel_rfl) (by kernel_rfl) (fun _ _ _ h => h) (Or.inl ⟨by rfl, ?_⟩) hSw ?_
                rotate_left
                focus (intro w0 hS0; clear hS0; go_simp; try with_reducible rfl)
                refine wpAnyH_take (i := 24) (v := ?_) rfl (by kernel_rfl) (by kernel_rfl) (by kernel_rfl) (fun _ _ _ h => h) (Or.inl ⟨by rfl, ?_⟩) hSw ?_
                rotate_left
                focus (intro w0 hS0; clear hS0; go_simp; try with_reducible rfl)
                refine wpAnyH_ready (rs := [8]) (by kernel_rfl) (by simp) (AllReadyH.cons rfl (fun K hK => ?_) (AllReadyH.nil))
                (have s0d : wd.cell? ⟨Ba, 0, none⟩ = some (.int .i64 ux) := (by rw [← hwd]; exact s0); go_simp; refine hK.out _ _ hSw (fun _ => ?_); clear hK K)
                refine wpAnyH_take (i := 9) (v := ?_) rfl (by kernel_rfl) (by kernel_rfl) (by kernel_rfl) (fun _ _ _ h => h) (Or.inl ⟨by rfl, ?_⟩) hSw ?_
                rotate_left
                focus (intro w0 hS0; clear hS0; go_simp; try with_reducible rfl)
                refine wpAnyH_take (i := 11) (v := ?_) rfl (by kernel_rfl) (by kernel_rfl) (by kernel_rfl) (fun _ _ _ h => h) (Or.inl ⟨by rfl, ?_⟩) hSw ?_
                rotate_left
                focus (intro w0 hS0; clear hS0; go_simp; try with_reducible rfl)
                refine wpAnyH_take (i := 12) (v := ?_) rfl (by kernel_rfl) (by kernel_rfl) (by kernel_rfl) (fun _ _ _ h => h) (Or.inl ⟨by rfl, ?_⟩) hSw ?_
                rotate_left
                focus (intro w0 hS0; clear hS0; go_simp; try with_reducible rfl)
                refine wpAnyH_take (i := 25) (v := ?_) rfl (by kernel_rfl) (by kernel_rfl) (by kernel_rfl) (fun _ _ _ h => h) (Or.inl ⟨by rfl, ?_⟩) hSw ?_
                rotate_left
                focus (intro w0 hS0; clear hS0; go_simp; try with_reducible rfl)
                refine wpAnyH_ready (rs := [26]) (by kernel_rfl) (by simp) (AllReadyH.cons rfl (fun K hK => ?_) (AllReadyH.nil))
                go_simp
                (have hwz : w.heap.size ≤ wd.heap.size := (by rw [← hwd]; exact hwsz); have HOz := HOw; rw [hwd] at HOz; replace hSw := hSw.alloc hwz (.cells #[.int .i64 RX, .int .i64 RY] 55); refine hK.out _ _ hSw (fun _ => ?_); clear hK K)
                refine wpAnyH_ready (rs := [27]) (by kernel_rfl) (by simp) (AllReadyH.cons rfl (fun K hK => ?_) (AllReadyH.nil))
                (refine step_list (by rintro ⟨_, _, h⟩; obtain ⟨_, hv, _⟩ := h; cases hv) (by kernel_rfl) ?_; refine wpList_append_own_at _ rfl _ _ 23 rfl w.heap.size 55 i0 (.agg #[.int .i64 (0), .int .i64 (0)]) 2 16 Tryz.underlying23 hi hz0 hz1 hz2 rfl (by decide) _ _ _ rfl (HOz.out.alloc _) ⟨_, 0, none⟩ 1 1 [.int .i64 RX, .int .i64 RY] rfl rfl (ptC_cells _ RX RY _) (ptC_one RX RY) (by unfold maxLen; omega) (by omega) (by simp; omega) ?_; intro v' w4 hown' hgrow _ hob; replace hSw := hSw.grown hgrow (by simp; omega) (fun k hk => (HOz.out.lt k hk).1); refine hK.out _ _ hSw (fun _ => ?_); clear hK K)
                refine wpAnyH_take (i := 28) (v := ?_) rfl (by kernel_rfl) (by kernel_rfl) (by kernel_rfl) (fun _ _ _ h => h) (Or.inl ⟨by rfl, ?_⟩) hSw ?_
                rotate_left
                focus (intro w0 hS0; clear hS0; go_simp; try with_reducible rfl)
                refine wpAnyH_done (by kernel_rfl) ?_ _
              all_goals
                have HB5 := Lib.hid (HBi.out.trans hSw)
                have t9 := cell_lt s0d
                have y0 : w4.cell? ⟨Ba, 0, none⟩ = some (.int .i64 ux) := (World.cell?_of_block (a := ⟨Ba, 0, none⟩) (hgrow.block _ (by simp; omega) (fun e => HO3.out e.symm))).trans ((World.cell?_alloc_lt _ _ ⟨_, _, none⟩ (by simp; omega)).trans s0d)
                have y1' : w4.cell? ⟨Ba, 1, none⟩ = some (.int .i64 uy) := (World.cell?_of_block (a := ⟨Ba, 1, none⟩) (hgrow.block _ (by simp; omega) (fun e => HO3.out e.symm))).trans ((World.cell?_alloc_lt _ _ ⟨_, _, none⟩ (by simp; omega)).trans s1d)
                have HO4 : Hid (Value.ownBlock v' ≠ some Ba) := by
                  rcases hob with e | e
                  · rw [e]; exact HO3.out
                  · rw [e]; intro q; simp at q; omega
                have HVv := Lib.hid (Vecs.snoc (l := L) HNe.out hown')
                rw [HLe.out, List.append_assoc, ← HXx.out] at HVv
                clear hown' hgrow hSw hob s0 s1 s0d s1d hkl
                go_wp2
                go_roundw
                case rel => exact ⟨x + 1, by omega, by go_num, HVv, HO4, by rw [← HUX.out]; exact y0, by rw [← HUY.out]; exact y1', HB5.out⟩
                case measure => simp [intOf]; omega
            · obtain rfl : x = G := by omega
              have j2 : ¬ ((x : Nat) : Int) < (x : Int) := by omega
              rw [← HXKk.out] at HI3
              clear s0 s1 HO3 HCk HKk HXk HPk HPZk
              go_wp2
              go_roundw
              case rel => exact ⟨k + 1, by omega, by go_num, HI3, hBi⟩
              case measure => simp [intOf]; omega
      · obtain rfl : k = l.length := by omega
        have i2 : ¬ ((l.length : Nat) : Int) < (l.length : Int) := by omega
        have hV := HI.out
        rw [HZ.out] at hV
        have HC4 := Lib.hid (HFo.out _ wr (hV.reads (by have := HLn.out; omega)))
        clear hV HFo HI
        go_wp2_with fail
        refine Calls.mono HC4.out ?_
        rintro e5 w5 ⟨v5, rfl, hV5, hb5⟩
        have HV5 := Lib.hid (hV5.lower hB.size)
        have hB6 := belowTo hB hb5
        clear hV5 hb5 HC4
        go_wp2
        go_returns
        exact ⟨_, rfl, HV5.out, hB6⟩
end Go.Proofs.YtgaeibibeekclabGreatDoor
