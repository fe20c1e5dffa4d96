/- Polygons: checked: the program. -/
import Derived.Test.YthkcopmodfmoeaaDoorWb
namespace Go.Proofs.YthkcopmodfmoeaaDoor
open Go.RowKit

def PolyEnd (b : Bool) (e : Ending) : Prop := if b then e = .returned .nilIface else IsNone e
def polyErr : Value := .iface 77 (.agg #[.string ⟨#[112, 111, 108, 121, 103, 111, 110]⟩])
theorem polyErr_none : IsNone (.returned polyErr) := ⟨_, rfl⟩
theorem polyEnd_no {b : Bool} (h : b = false) : PolyEnd b (.returned polyErr) := by rw [h]; exact polyErr_none
theorem polyEnd_yes {b : Bool} (h : b = true) : PolyEnd b (.returned .nilIface) := by rw [h]; rfl
theorem bend_is (l : List V2) (i : Nat) : bendV (cyc l i) (cyc l (i + 1)) (cyc l (i + 2)) = bendB l i := rfl
theorem big_cnr {u : V2} (h : cnrV u = true) : big 400000 u.1 u.2 := by
  have := cnr_in h
  unfold big
  omega
set_option maxHeartbeats 4000000 in
theorem polyCheck_small (v : Value) (l : List V2) (w : World) (h : ReadsVecs w v l) (hs : l.length < 3 ∨ 30 < l.length) :
    Calls Tryd.prog 37 #[v] w fun e w' => PolyEnd (polyB l) e ∧ Below w.heap.size w w' := by
  have HE := Lib.hid (polyEnd_no (poly_short hs))
  obtain ⟨a, c, rfl, _, _, _⟩ := h
  unfold polyErr at HE
  generalize polyB l = K at *
  by_cases h3 : l.length < 3
  · have j1 : (l.length : Int) < 3 := by omega
    go_enter Tryd.func37, Tryd.ntmps37
    go_wp2
    go_returns
    exact ⟨HE.out, by go_grown⟩
  · have j1 : ¬ (l.length : Int) < 3 := by omega
    have j2 : 30 < (l.length : Int) := by omega
    have j3 : decide ((l.length : Int) < 3) = false := by simpa using j1
    go_enter Tryd.func37, Tryd.ntmps37
    go_wp2
    go_returns
    exact ⟨HE.out, by go_grown⟩
set_option maxRecDepth 100000 in
set_option maxHeartbeats 16000000 in
theorem polyCheck_any (v : Value) (l : List V2) (w : World) (h : ReadsVecs w v l) :
    Calls Tryd.prog 37 #[v] w fun e w' => PolyEnd (polyB l) e ∧ Below w.heap.size w w' := by
  by_cases hr : 3 ≤ l.length ∧ l.length ≤ 30
  case neg => exact polyCheck_small v l w h (by omega)
  case pos =>
    have h0 : 0 < l.length := by omega
    have HAt := Lib.hid (fun i w' (hb : Below w.heap.size w w') => at_any' v l i w' (h.below hb) h0)
    have HWy := Lib.hid (fun w' (hb : Below w.heap.size w w') hk => ways_any v l w' (h.below hb) h0 (by omega) hk)
    have HRo := Lib.hid (fun v' b' w' (hI : Vecs w' b' v' (waysL l)) hv => rounds_any v' (waysL l) w' (hI.reads (by rw [waysL_len]; omega)) (by rw [waysL_len]; exact h0) (by rw [waysL_len]; omega) hv)
    obtain ⟨bv, ov, vc, rfl, _, _, hbv, hvs⟩ := h.open h0
    have HVS := Lib.hid hvs
    have HCn := Lib.hid (fun V w' => inCornerV V w')
    have HNK := Lib.hid (fun i h1 h2 => polyEnd_no (poly_notK (l := l) (i := i) h1 h2))
    have HNB := Lib.hid (fun i h1 h2 => polyEnd_no (poly_notB (l := l) (i := i) h1 h2))
    have HIs := Lib.hid (fun hk hb => poly_is (l := l) (by unfold prng; simp; omega) hk hb)
    have HBi := Lib.hid (fun i => bend_is l i)
    have HWs := Lib.hid (fun (hk : ∀ i, cnrV (cyc l i) = true) i => way_small hk i)
    have HWc := Lib.hid (fun i => cyc_ways h0 i)
    have HOn : Hid (oneBack (waysL l) = (cnt (bkB (waysL l)) (List.range (waysL l).length) == 1)) := rfl
    have HAll : Hid ((∀ j, j < l.length → cnrV (cyc l j) = true) → ∀ i, cnrV (cyc l i) = true) := fun hq i => by
      have := hq (i % l.length) (Nat.mod_lt _ h0)
      rwa [cyc_mod] at this
    have j1 : ¬ (l.length : Int) < 3 := by omega
    have j1' : decide ((l.length : Int) < 3) = false := by simpa using j1
    have j2 : ¬ 30 < (l.length : Int) := by omega
    have j2' : decide (30 < (l.length : Int)) = false := by simpa using j2
    unfold polyErr at HNK HNB
    generalize polyB l = K at *
    clear h hvs
    go_enter Tryd.func37, Tryd.ntmps37
    go_wp2
    go_loopw [19] (fun s wr => ∃ k : Nat, k ≤ l.length ∧ s = .int .i64 k ∧ Hid (∀ j, j < k → cnrV (cyc l j) = true) ∧ Below w.heap.size w wr) (fun s _ => l.length - (intOf s).toNat)
    case atStart => exact ⟨0, Nat.zero_le _, rfl, fun j hj => by omega, Below.refl _ _⟩
    case round =>
      obtain ⟨k, hk, rfl, HE, hB⟩ := hrel
      have i1 : (0 : Int) ≤ (k : Int) := by omega
      by_cases hlt : k < l.length
      · have i2 : (k : Int) < (l.length : Int) := by omega
        obtain ⟨c0, c1⟩ := HVS.out wr hB k hlt
        have HB := Lib.hid (fun h => HNK.out k hlt h)
        have HE2 : Hid (cnrV (cyc l k) = true → ∀ j, j < k + 1 → cnrV (cyc l j) = true) := fun h j h2 => by
          by_cases e : j = k
          · subst e; exact h
          · exact HE.out j (by omega)
        have HCk := Lib.hid (fun w' => HCn.out (cyc l k) w')
        have hs := hB.size
        generalize hz : cnrV (cyc l k) = z at HB HE2 HCk
        clear hz
        generalize cyc l k = V at *
        obtain ⟨x, y⟩ := V
        dsimp only at c0 c1 HCk
        clear HE HNK HNB HIs HBi HWs HWc HVS HWy HRo HAt HOn
        go_wp2_with fail
        refine Calls.mono (HCk.out _) ?_
        rintro e w2 ⟨rfl, hb2⟩
        have hA : Below w.heap.size w w2 := hB.trans (Below.mono (belowTo (a := wr) (by go_grown) hb2) hs)
        clear hb2 HCk
        cases z
        · go_wp2
          go_returns
          exact ⟨HB.out (by simp), hA⟩
        · go_wp2
          go_roundw
          case rel => exact ⟨k + 1, by omega, by go_num, HE2.out (by simp), hA⟩
          case measure => simp [intOf]; omega
      · obtain rfl : k = l.length := by omega
        have i2 : ¬ ((l.length : Nat) : Int) < (l.length : Int) := by omega
        have HKa := Lib.hid (HAll.out HE.out)
        have HKb := Lib.hid HE.out
        clear HE HNK HCn HAll
        go_wp2
        go_loopw [31] (fun s wx => ∃ k : Nat, k ≤ l.length ∧ s = .int .i64 k ∧ Hid (∀ j, j < k → bendB l j = true) ∧ Below w.heap.size w wx) (fun s _ => l.length - (intOf s).toNat)
        case atStart => exact ⟨0, Nat.zero_le _, rfl, fun j hj => by omega, hB⟩
        case round =>
          clear hB
          obtain ⟨k, hk, rfl, HE, hB⟩ := hrel
          have i1 : (0 : Int) ≤ (k : Int) := by omega
          by_cases hlt : k < l.length
          · have i2 : (k : Int) < (l.length : Int) := by omega
            obtain ⟨c0, c1⟩ := HVS.out _ hB k hlt
            have HB := Lib.hid (fun h => HNB.out k hlt h)
            have HE2 : Hid (bendB l k = true → ∀ j, j < k + 1 → bendB l j = true) := fun h j h2 => by
              by_cases e : j = k
              · subst e; exact h
              · exact HE.out j (by omega)
            have HA1 := Lib.hid (HAt.out (k + 1))
            have HA2 := Lib.hid (HAt.out (k + 2))
            have b0 := big_cnr (HKa.out k)
            have b1 := big_cnr (HKa.out (k + 1))
            have b2 := big_cnr (HKa.out (k + 2))
            have HBd := Lib.hid (fun w' => bendsV _ _ _ w' b0 b1 b2)
            rw [HBi.out k] at HBd
            have q0 : IntKind.i64.wrap ((k : Int) + 1) = ((k + 1 : Nat) : Int) := by rw [IntKind.wrap_i64]; omega
            have q1 : IntKind.i64.wrap ((k : Int) + 2) = ((k + 2 : Nat) : Int) := by rw [IntKind.wrap_i64]; omega
            generalize hz : bendB l k = z at HB HE2 HBd
            clear hz b0 b1 b2
            generalize cyc l k = V at *
            generalize cyc l (k + 1) = U at *
            generalize cyc l (k + 2) = T at *
            obtain ⟨x1, y1⟩ := V
            obtain ⟨x2, y2⟩ := U
            obtain ⟨x3, y3⟩ := T
            dsimp only at c0 c1 HA1 HA2 HBd
            have hs := hB.size
            clear HE HNB HIs HBi HWs HWc HVS HWy HRo HAt HOn HKa HKb
            go_wp2_with fail
            have hA2 : Below wr.heap.size wr (wr.alloc (.cells #[.int .i64 x1, .int .i64 y1] 38)) := by go_grown
            have e0 : (wr.alloc (.cells #[.int .i64 x1, .int .i64 y1] 38)).cell? ⟨wr.heap.size, 0, none⟩ = some (.int .i64 x1) := by simp
            have e1 : (wr.alloc (.cells #[.int .i64 x1, .int .i64 y1] 38)).cell? ⟨wr.heap.size, 1, none⟩ = some (.int .i64 y1) := by simp
            have hB2 := hB.trans (hA2.mono hs)
            obtain ⟨B3, hB3⟩ : ∃ B3, B3 = wr.heap.size := ⟨_, rfl⟩
            rw [← hB3] at e0 e1 ⊢
            generalize (wr.alloc (.cells #[.int .i64 x1, .int .i64 y1] 38)) = W3 at *
            clear hA2 hB3 c0 c1 hs hB
            have hs3 := hB2.size
            have t0 := cell_lt e0
            have hb1 := Below.refl W3.heap.size W3
            have hb := hb1
            refine wp_region_any (by kernel_rfl) ?_
            try (change wpAny _ _ _ _ _ _ _ (World.drew _))
            refine wpAny_take (i := 1) (v := ?_) rfl (by kernel_rfl) (by kernel_rfl) (by kernel_rfl) (fun _ _ _ h => h) (Or.inl ⟨by rfl, ?_⟩) ?_
            rotate_left
            focus (intro w0; go_simp; try with_reducible rfl)
            refine wpAny_take (i := 2) (v := ?_) rfl (by kernel_rfl) (by kernel_rfl) (by kernel_rfl) (fun _ _ _ h => h) (Or.inl ⟨by rfl, ?_⟩) ?_
            rotate_left
            focus (intro w0; go_simp; try with_reducible rfl)
            refine wpAny_take (i := 3) (v := ?_) rfl (by kernel_rfl) (by kernel_rfl) (by kernel_rfl) (fun _ _ _ h => h) (Or.inl ⟨by rfl, ?_⟩) ?_
            rotate_left
            focus (intro w0; go_simp; try with_reducible rfl)
            refine wpAny_take (i := 5) (v := ?_) rfl (by kernel_rfl) (by kernel_rfl) (by kernel_rfl) (fun _ _ _ h => h) (Or.inl ⟨by rfl, ?_⟩) ?_
            rotate_left
            focus (intro w0; go_simp; try with_reducible rfl)
            refine wpAny_take (i := 6) (v := ?_) rfl (by kernel_rfl) (by kernel_rfl) (by kernel_rfl) (fun _ _ _ h => h) (Or.inl ⟨by rfl, ?_⟩) ?_
            rotate_left
            focus (intro w0; go_simp; try with_reducible rfl)
            refine wpAny_take (i := 7) (v := ?_) rfl (by kernel_rfl) (by kernel_rfl) (by kernel_rfl) (fun _ _ _ h => h) (Or.inl ⟨by rfl, ?_⟩) ?_
            rotate_left
            focus (intro w0; go_simp; try with_reducible rfl)
            refine wpAny_ready (rs := [0, 4]) (by kernel_rfl) (by simp) (AllReady.cons rfl (fun K hK => ?_) (AllReady.cons rfl (fun K hK => ?_) (AllReady.nil)))
            focus
              go_simp
              refine hK _ _ ?_
              clear hK K
              refine wpAny_ready (rs := [4]) (by kernel_rfl) (by simp) (AllReady.cons rfl (fun K hK => ?_) (AllReady.nil))
              go_simp
              (refine Calls.mono (HA1.out _ (hB2.trans (by go_grown))) ?_; rintro e w1 ⟨rfl, hb1⟩; replace hb1 := undrew hb1; replace e0 := (hb1.cell (p := ⟨B3, 0, none⟩) t0).trans e0; replace e1 := (hb1.cell (p := ⟨B3, 1, none⟩) t0).trans e1; have t1 := Nat.lt_of_lt_of_le t0 hb1.size; have hBa := hB2.trans (hb1.mono hs3))
              refine hK _ _ ?_
              clear hK K
              refine wpAny_ready (rs := [8]) (by kernel_rfl) (by simp) (AllReady.cons rfl (fun K hK => ?_) (AllReady.nil))
              go_simp
              (refine Calls.mono (HA2.out _ hBa) ?_; rintro e w2 ⟨rfl, hb2⟩; replace e0 := (hb2.cell (p := ⟨B3, 0, none⟩) t1).trans e0; replace e1 := (hb2.cell (p := ⟨B3, 1, none⟩) t1).trans e1; have hBb := belowTo hBa hb2)
              refine hK _ _ ?_
              clear hK K
              refine wpAny_ready (rs := [9]) (by kernel_rfl) (by simp) (AllReady.cons rfl (fun K hK => ?_) (AllReady.nil))
              go_simp
              (refine Calls.mono (HBd.out _) ?_; rintro e w4 ⟨rfl, hb4⟩; have hBc := belowTo hBb hb4)
              refine hK _ _ ?_
              clear hK K
              refine wpAny_take (i := 10) (v := ?_) rfl (by kernel_rfl) (by kernel_rfl) (by kernel_rfl) (fun _ _ _ h => h) (Or.inl ⟨by rfl, ?_⟩) ?_
              rotate_left
              focus (intro w0; go_simp; try with_reducible rfl)
              refine wpAny_seq 11 rfl (by kernel_rfl) ?_
              simp only [List.drop_succ_cons, List.drop_zero]
            rotate_left 1
            focus
              go_simp
              (refine Calls.mono (HA1.out _ (hB2.trans (by go_grown))) ?_; rintro e w1 ⟨rfl, hb1⟩; replace hb1 := undrew hb1; replace e0 := (hb1.cell (p := ⟨B3, 0, none⟩) t0).trans e0; replace e1 := (hb1.cell (p := ⟨B3, 1, none⟩) t0).trans e1; have t1 := Nat.lt_of_lt_of_le t0 hb1.size; have hBa := hB2.trans (hb1.mono hs3))
              refine hK _ _ ?_
              clear hK K
              refine wpAny_ready (rs := [0, 8]) (by kernel_rfl) (by simp) (AllReady.cons rfl (fun K hK => ?_) (AllReady.cons rfl (fun K hK => ?_) (AllReady.nil)))
              focus
                go_simp
                refine hK _ _ ?_
                clear hK K
                refine wpAny_ready (rs := [8]) (by kernel_rfl) (by simp) (AllReady.cons rfl (fun K hK => ?_) (AllReady.nil))
                go_simp
                (refine Calls.mono (HA2.out _ hBa) ?_; rintro e w2 ⟨rfl, hb2⟩; replace e0 := (hb2.cell (p := ⟨B3, 0, none⟩) t1).trans e0; replace e1 := (hb2.cell (p := ⟨B3, 1, none⟩) t1).trans e1; have hBb := belowTo hBa hb2)
                refine hK _ _ ?_
                clear hK K
                refine wpAny_ready (rs := [9]) (by kernel_rfl) (by simp) (AllReady.cons rfl (fun K hK => ?_) (AllReady.nil))
                go_simp
                (refine Calls.mono (HBd.out _) ?_; rintro e w4 ⟨rfl, hb4⟩; have hBc := belowTo hBb hb4)
                refine hK _ _ ?_
                clear hK K
                refine wpAny_take (i := 10) (v := ?_) rfl (by kernel_rfl) (by kernel_rfl) (by kernel_rfl) (fun _ _ _ h => h) (Or.inl ⟨by rfl, ?_⟩) ?_
                rotate_left
                focus (intro w0; go_simp; try with_reducible rfl)
                refine wpAny_seq 11 rfl (by kernel_rfl) ?_
                simp only [List.drop_succ_cons, List.drop_zero]
              rotate_left 1
              focus
                go_simp
                (refine Calls.mono (HA2.out _ hBa) ?_; rintro e w2 ⟨rfl, hb2⟩; replace e0 := (hb2.cell (p := ⟨B3, 0, none⟩) t1).trans e0; replace e1 := (hb2.cell (p := ⟨B3, 1, none⟩) t1).trans e1; have hBb := belowTo hBa hb2)
                refine hK _ _ ?_
                clear hK K
                refine wpAny_ready (rs := [0]) (by kernel_rfl) (by simp) (AllReady.cons rfl (fun K hK => ?_) (AllReady.nil))
                go_simp
                refine hK _ _ ?_
                clear hK K
                refine wpAny_ready (rs := [9]) (by kernel_rfl) (by simp) (AllReady.cons rfl (fun K hK => ?_) (AllReady.nil))
                go_simp
                (refine Calls.mono (HBd.out _) ?_; rintro e w4 ⟨rfl, hb4⟩; have hBc := belowTo hBb hb4)
                refine hK _ _ ?_
                clear hK K
                refine wpAny_take (i := 10) (v := ?_) rfl (by kernel_rfl) (by kernel_rfl) (by kernel_rfl) (fun _ _ _ h => h) (Or.inl ⟨by rfl, ?_⟩) ?_
                rotate_left
                focus (intro w0; go_simp; try with_reducible rfl)
                refine wpAny_seq 11 rfl (by kernel_rfl) ?_
                simp only [List.drop_succ_cons, List.drop_zero]
            all_goals
              clear hb1 hb2 hb4 e0 e1 t0 t1 hBa hBb
              cases z
              · go_wp2
                go_returns
                exact ⟨HB.out (by simp), hBc⟩
              · go_wp2
                go_roundw
                case rel => exact ⟨k + 1, by omega, by go_num, HE2.out (by simp), hBc⟩
                case measure => simp [intOf]; omega
          · obtain rfl : k = l.length := by omega
            have i2 : ¬ ((l.length : Nat) : Int) < (l.length : Int) := by omega
            have HPo := Lib.hid (HIs.out HKb.out HE.out)
            have HWx := Lib.hid (HWy.out _ hB (fun i => by have := cnr_in (HKa.out i); unfold big; omega))
            have HVw : Hid (allVec (waysL l)) := fun i => by
              rw [HWc.out i]
              exact vec_of (by have := HWs.out HKa.out i; omega)
            clear HE HNB HIs HBi HWs HWc HVS HWy HAt HKa HKb
            go_wp2_with fail
            refine Calls.mono HWx.out ?_
            rintro e w1 ⟨v1, rfl, hI, hb1⟩
            have HRy := Lib.hid (HRo.out _ _ _ hI HVw.out)
            have hBa := belowTo hB hb1
            clear hI hb1 HRo HWx
            rw [HOn.out] at HPo
            generalize cnt (bkB (waysL l)) (List.range (waysL l).length) = q at *
            go_wp2_with fail
            refine Calls.mono HRy.out ?_
            rintro e w2 ⟨rfl, hb2⟩
            have hBb := belowTo hBa hb2
            clear hb2 hBa HRy
            by_cases hq : q = 1
            · have h1 : (q : Int) = 1 := by omega
              have HE := Lib.hid (polyEnd_yes (HPo.out.trans (by simpa using hq)))
              clear hq
              go_wp2
              go_returns
              exact ⟨HE.out, hBb⟩
            · have h1 : ¬ (q : Int) = 1 := by omega
              have HE := Lib.hid (polyEnd_no (HPo.out.trans (by simpa using hq)))
              unfold polyErr at HE
              clear hq
              go_wp2
              go_returns
              exact ⟨HE.out, hBb⟩
end Go.Proofs.YthkcopmodfmoeaaDoor
