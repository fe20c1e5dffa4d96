import Derived.Test.YtgaeibibeekclaaGreatDoorK2
/- PolygonShift: both sides. -/
namespace Go.Proofs.YtgaeibibeekclaaGreatDoor
open Go.RowKit

theorem vec_cells (W : World) (X Y : Int) (t : TypeId) : ∀ j u, [Value.int .i64 X, Value.int .i64 Y][j]? = some u → (W.alloc (.cells #[.int .i64 X, .int .i64 Y] t)).cell? ((⟨W.heap.size, 0, none⟩ : Addr).add j) = some u := by
  intro j u hj
  match j, hj with
  | 0, hj => simp at hj; subst hj; simp [Addr.add]
  | 1, hj => simp at hj; subst hj; simp [Addr.add]
theorem vec_one (X Y : Int) : ∀ u ∈ [Value.int .i64 X, Value.int .i64 Y], u.oneCell' = true := by
  intro u hu
  simp at hu
  rcases hu with rfl | rfl <;> rfl
set_option maxHeartbeats 1000000 in
theorem vplusBig_any (x1 y1 x2 y2 : Int) (w : World) (h1 : big 400000 x1 y1) (h2 : big 400000 x2 y2) :
    Calls Tryz.prog 30 #[.agg #[.int .i64 (x1), .int .i64 (y1)], .agg #[.int .i64 (x2), .int .i64 (y2)]] w fun e w' => e = .returned (.agg #[.int .i64 (x2 + x1), .int .i64 (y2 + y1)]) ∧ Below w.heap.size w w' := by
  obtain ⟨⟨_, _⟩, _, _⟩ := h1
  obtain ⟨⟨_, _⟩, _, _⟩ := h2
  have q1 : IntKind.i64.wrap (x1 + x2) = x2 + x1 := by rw [IntKind.wrap_i64]; omega
  have q2 : IntKind.i64.wrap (y1 + y2) = y2 + y1 := by rw [IntKind.wrap_i64]; omega
  go_enter Tryz.func30, Tryz.ntmps30
  go_wp2
  go_returns
  exact ⟨rfl, by go_grown⟩
def ShiftB (l : List V2) (s : V2) : Bool := polyB l && vecB s.1 s.2
def ShiftL (l : List V2) (s : V2) : List V2 := gV (ShiftB l s && polyB (l.map (shiftF s))) (tidyP (l.map (shiftF s)))
theorem vec_big {x y : Int} (h : vecB x y = true) : big 400000 x y := by
  unfold vecB szB at h
  simp at h
  unfold big
  omega
set_option maxHeartbeats 4000000 in
theorem polygonShift_any (v : Value) (l : List V2) (p r : Int) (w : World) (hl : ReadsVecs w v l) (hg : EtOk w) :
    Calls Tryz.prog 8 #[v, .agg #[.int .i64 (p), .int .i64 (r)]] w (GivesVecsR w (ShiftL l (p, r)) (ShiftB l (p, r) && polyB (l.map (shiftF (p, r))))) := by
  have HC := Lib.hid (fun B w' (hb : Below w.heap.size w w') c0 c1 hB => checkAll_pv v l p r B w' (hl.below hb) c0 c1 hB)
  have HCh := Lib.hid (fun w' (hb : Below w.heap.size w w') (hK : polyB l = true) (hv : vecB p r = true) =>
    changedS v l p r (shiftF (p, r)) w' (hg.below hb) (hl.below hb) (by have := poly_len hK; omega) (by have := poly_len hK; omega) (fun i => poly_small hK i)
      (fun W x y _ hxy => vplusBig_any p r x y W (vec_big hv) (by unfold big at *; omega)) (shift_big (s := (p, r)) hK hv))
  have HM := Lib.hid (fun (hK : polyB l = true) => hull_shift hK (p, r))
  have HT : Hid (ShiftB l (p, r) = (polyB l && vecB p r)) := rfl
  obtain ⟨a, c, rfl, _⟩ := hl
  unfold GivesVecsR ShiftL
  generalize hTB : ShiftB l (p, r) = TB at *
  clear hTB
  generalize l.map (shiftF (p, r)) = L at *
  cases hk : (polyB l && vecB p r)
  · have hTB : TB = false := by rw [HT.out, hk]
    subst hTB
    rw [hk] at HC
    clear hk HCh HM HT
    go_enter Tryz.func8, Tryz.ntmps8
    go_wp2_with fail
    refine Calls.mono (HC.out _ _ (by go_grown) (by go_cell) (by go_cell) (by go_size)) ?_
    rintro e w1 ⟨he, hb1⟩
    obtain ⟨s, rfl⟩ : IsNone e := he
    have hb : Below w.heap.size w w1 := belowTo (by go_grown) hb1
    clear hb1
    go_wp2_with fail
    refine Calls.mono (none_hit s _ (hg.below hb)) ?_
    rintro e w2 ⟨rfl, hb2⟩
    replace hb := belowTo hb hb2
    clear hb2
    go_wp2
    go_returns
    exact ⟨_, rfl, VecsR.nil _ _, hb⟩
  · have hTB : TB = true := by rw [HT.out, hk]
    subst hTB
    have hk2 : polyB l = true ∧ vecB p r = true := by simpa using hk
    rw [hk] at HC
    obtain ⟨m1, m2⟩ := HM.out hk2.1
    have HC2 := Lib.hid (fun w' hb => HCh.out w' hb hk2.1 hk2.2)
    rw [m2, m1] at HC2
    unfold GivesVecsR at HC2
    clear HM HCh HT m1 m2 hk hk2
    rw [Bool.true_and]
    generalize gV (polyB L) (tidyP L) = R at *
    generalize polyB L = P at *
    go_enter Tryz.func8, Tryz.ntmps8
    go_wp2_with fail
    refine Calls.mono (HC.out _ _ (by go_grown) (by go_cell) (by go_cell) (by go_size)) ?_
    rintro e w1 ⟨he, hb1⟩
    obtain rfl : e = .returned .nilIface := he
    have hb : Below w.heap.size w w1 := belowTo (by go_grown) hb1
    have c0 : w1.cell? ⟨w.heap.size, 0, none⟩ = some (.int .i64 p) := (hb1.cell (p := ⟨w.heap.size, 0, none⟩) (by simp; omega)).trans (by first | (go_cell; done) | (go_simp; done) | (simp; done))
    have c1 : w1.cell? ⟨w.heap.size, 1, none⟩ = some (.int .i64 r) := (hb1.cell (p := ⟨w.heap.size, 1, none⟩) (by simp; omega)).trans (by first | (go_cell; done) | (go_simp; done) | (simp; done))
    clear hb1
    go_wp2_with fail
    refine Calls.mono (none_nil _) ?_
    rintro e w2 ⟨rfl, hb2⟩
    replace c1 := (hb2.cell (p := ⟨w.heap.size, 1, none⟩) (cell_lt c0)).trans c1
    replace c0 := (hb2.cell (p := ⟨w.heap.size, 0, none⟩) (cell_lt c0)).trans c0
    replace hb := belowTo hb hb2
    have hs := hb.size
    clear hb2
    go_wp2_with fail
    refine Calls.mono (HC2.out _ hb) ?_
    rintro e w3 ⟨v3, rfl, I3, hb3⟩
    have HB := Lib.hid (belowTo hb hb3)
    have HI3 := Lib.hid (I3.lower hs)
    clear hb3 I3
    go_wp2
    go_returns
    exact ⟨_, rfl, HI3.out, HB.out⟩
end Go.Proofs.YtgaeibibeekclaaGreatDoor

/- PolygonShift: the model. -/
namespace Go.Proofs.YtgaeibibeekclaaGreatDoor
open Go.RowKit

set_option maxRecDepth 100000 in
set_option maxHeartbeats 4000000 in
theorem specPolygonShift_any (v : Value) (l : List V2) (p r : Int) (w : World) (hl : ReadsVecs w v l) :
    Calls Tryz.prog 9 #[v, .agg #[.int .i64 (p), .int .i64 (r)]] w (GivesVecsOk w (ShiftL l (p, r)) (ShiftB l (p, r) && polyB (l.map (shiftF (p, r))))) := by
  have HI := Lib.hid (fun w' (hb : Below w.heap.size w w') => specPolygonIn_any v l w' (hl.below hb))
  have HV := Lib.hid (fun w' => specVecIn_any p r w')
  have hE := Lib.hid (fun w' => Vecs.empty w')
  unfold GivesVecsOk ShiftL
  have HT : Hid (ShiftB l (p, r) = (polyB l && vecB p r)) := rfl
  generalize hTB : ShiftB l (p, r) = TB at *
  clear hTB
  obtain ⟨W0, hW0⟩ : ∃ W0, W0 = w.alloc (.cells #[.int .i64 p, .int .i64 r] 25) := ⟨_, rfl⟩
  have hB0 : Below w.heap.size w W0 := by rw [hW0]; go_grown
  have x0 : W0.cell? ⟨w.heap.size, 0, none⟩ = some (.int .i64 p) := by rw [hW0]; simp
  have x1 : W0.cell? ⟨w.heap.size, 1, none⟩ = some (.int .i64 r) := by rw [hW0]; simp
  have hz0' : W0.heap.size = w.heap.size + 1 := by rw [hW0]; simp
  have hA0 : Below W0.heap.size W0 (W0.alloc (.cells #[] 25)) := by go_grown
  have hB1 := hB0.trans (hA0.mono (by omega))
  have hE0 := hE.out W0
  rw [hz0'] at hE0
  have y0 := (hA0.cell (p := ⟨w.heap.size, 0, none⟩) (by show w.heap.size < _; omega)).trans x0
  have y1 := (hA0.cell (p := ⟨w.heap.size, 1, none⟩) (by show w.heap.size < _; omega)).trans x1
  obtain ⟨W1, hW1⟩ : ∃ W1, W1 = W0.alloc (.cells #[] 25) := ⟨_, rfl⟩
  rw [← hW1] at hB1 hE0 y0 y1
  have HE0 := Lib.hid hE0
  have HB1 := Lib.hid hB1
  have HY0 := Lib.hid y0
  have HY1 := Lib.hid y1
  clear hA0 hB0 x0 x1 hB1 hE0 y0 y1 hE
  cases hb : polyB l
  · have hTB : TB = false := by rw [HT.out, hb]; rfl
    subst hTB
    rw [hb] at HI
    obtain ⟨a, c, rfl, _⟩ := hl
    clear HV HT hb HY0 HY1
    go_enter Tryz.func9, Tryz.ntmps9
    go_upto_region 2 with fail
    rw [← hW0, ← hW1]
    clear hW0 hW1 hz0'
    go_wp2_with fail
    refine Calls.mono (HI.out _ HB1.out) ?_
    rintro e w1 ⟨rfl, hb1⟩
    have HE1 := Lib.hid (HE0.out.below hb1)
    have hB := belowTo HB1.out hb1
    clear hb1
    go_wp2
    go_returns
    exact ⟨_, rfl, HE1.out.lower (Nat.le_succ _), hB⟩
  · have h3 := poly_len hb
    cases hv : vecB p r
    · have hTB : TB = false := by rw [HT.out, hb, hv]; rfl
      subst hTB
      rw [hb] at HI
      rw [hv] at HV
      obtain ⟨a, c, rfl, _⟩ := hl
      clear HT hb h3 hv
      go_enter Tryz.func9, Tryz.ntmps9
      go_upto_region 2 with fail
      rw [← hW0, ← hW1]
      clear hW0 hW1 hz0'
      go_wp2_with fail
      refine Calls.mono (HI.out _ HB1.out) ?_
      rintro e w1 ⟨rfl, hb1⟩
      have HE1 := Lib.hid (HE0.out.below hb1)
      have hB := belowTo HB1.out hb1
      have y0 := (hb1.cell (p := ⟨w.heap.size, 0, none⟩) (cell_lt HY0.out)).trans HY0.out
      have y1 := (hb1.cell (p := ⟨w.heap.size, 1, none⟩) (cell_lt HY0.out)).trans HY1.out
      clear hb1
      go_wp2_with fail
      refine Calls.mono (HV.out _) ?_
      rintro e w2 ⟨rfl, hb2⟩
      have HE2 := Lib.hid (HE1.out.below hb2)
      have hB2 := belowTo hB hb2
      clear hb2 hB
      go_wp2
      go_returns
      exact ⟨_, rfl, HE2.out.lower (Nat.le_succ _), hB2⟩
    · have hTB : TB = true := by rw [HT.out, hb, hv]; rfl
      subst hTB
      rw [hb] at HI
      have hpr := vec_big hv
      rw [hv] at HV
      obtain ⟨i0, hi, hz0, hz1, hz2⟩ := info_parts infoVec
      have HSm := Lib.hid (fun k => poly_small hb k)
      have HX : Hid (∀ k, (List.range (k + 1)).map (fun i => shiftF (p, r) (cyc l i)) = (List.range k).map (fun i => shiftF (p, r) (cyc l i)) ++ [((cyc l k).1 + p, (cyc l k).2 + r)]) := fun k => by simp [List.range_succ, shiftF]
      have HZ : Hid ((List.range l.length).map (fun i => shiftF (p, r) (cyc l i)) = l.map (shiftF (p, r))) := range_map _ _
      have HD := Lib.hid (fun v' b' w' (hI : Vecs w' b' v' (l.map (shiftF (p, r)))) => l6gDone_any v' (l.map (shiftF (p, r))) w' (hI.reads (by rw [List.length_map]; omega)))
      unfold TidyS GivesVecsOk at HD
      obtain ⟨bb, off, c, rfl, _, _, hbb, hcs⟩ := hl.open (by omega)
      have HCl := Lib.hid hcs
      rw [Bool.true_and]
      generalize gV (polyB (l.map (shiftF (p, r)))) (tidyP (l.map (shiftF (p, r)))) = R at *
      generalize polyB (l.map (shiftF (p, r))) = P at *
      have hpr' : (-400000 ≤ p ∧ p ≤ 400000) ∧ -400000 ≤ r ∧ r ≤ 400000 := hpr
      clear HT hb hcs hl hv hpr
      go_enter Tryz.func9, Tryz.ntmps9
      go_upto_region 2 with fail
      rw [← hW0, ← hW1]
      clear hW0 hW1 hz0'
      go_wp2_with fail
      refine Calls.mono (HI.out _ HB1.out) ?_
      rintro e w1 ⟨rfl, hb1⟩
      have HE1 := Lib.hid (HE0.out.below hb1)
      have hB := belowTo HB1.out hb1
      have y0 := (hb1.cell (p := ⟨w.heap.size, 0, none⟩) (cell_lt HY0.out)).trans HY0.out
      have y1 := (hb1.cell (p := ⟨w.heap.size, 1, none⟩) (cell_lt HY0.out)).trans HY1.out
      clear hb1
      go_wp2_with fail
      refine Calls.mono (HV.out _) ?_
      rintro e w2 ⟨rfl, hb2⟩
      have HE2 := Lib.hid (HE1.out.below hb2)
      have HB2 := Lib.hid (belowTo hB hb2)
      have HW0 := Lib.hid ((hb2.cell (p := ⟨w.heap.size, 0, none⟩) (cell_lt y0)).trans y0)
      have HW1 := Lib.hid ((hb2.cell (p := ⟨w.heap.size, 1, none⟩) (cell_lt y0)).trans y1)
      have hwp := cell_lt HW0.out
      clear hb2 hB y0 y1 HI HV HE0 HE1 HB1 HY0 HY1
      go_wp2
      go_loopw [6, 7] (fun s6 s7 wr => ∃ k : Nat, k ≤ l.length ∧ s7 = .int .i64 k ∧ Hid (Vecs wr (w.heap.size + 1) s6 ((List.range k).map (fun i => shiftF (p, r) (cyc l i)))) ∧ Below (w.heap.size + 1) w2 wr) (fun _ s7 _ => l.length - (intOf s7).toNat)
      case atStart => exact ⟨0, Nat.zero_le _, rfl, HE2.out, Below.refl _ _⟩
      case round =>
        obtain ⟨k, hk, rfl, HV, hB⟩ := hrel
        have i1 : (0 : Int) ≤ (k : Int) := by omega
        have hBw := HB2.out.trans (hB.mono (Nat.le_succ _))
        by_cases hlt : k < l.length
        · have i2 : (k : Int) < (l.length : Int) := by omega
          obtain ⟨d0, d1⟩ := HCl.out wr hBw k hlt
          have y0 := (hB.cell (p := ⟨w.heap.size, 0, none⟩) (Nat.lt_succ_self _)).trans HW0.out
          have y1 := (hB.cell (p := ⟨w.heap.size, 1, none⟩) (Nat.lt_succ_self _)).trans HW1.out
          obtain ⟨s1, s2⟩ := HSm.out k
          have HXk := Lib.hid (HX.out k)
          have hkl : ((List.range k).map (fun i => shiftF (p, r) (cyc l i))).length = k := by simp
          generalize hV : cyc l k = V at *
          clear hV
          obtain ⟨x, y⟩ := V
          dsimp only at d0 d1 s1 s2 HXk
          obtain ⟨X, hX⟩ : ∃ X, X = x + p := ⟨_, rfl⟩
          obtain ⟨Y, hY⟩ : ∃ Y, Y = y + r := ⟨_, rfl⟩
          have q1 : IntKind.i64.wrap (x + p) = X := by rw [IntKind.wrap_i64, hX]; omega
          have q2 : IntKind.i64.wrap (y + r) = Y := by rw [IntKind.wrap_i64, hY]; omega
          rw [← hX, ← hY] at HXk
          have hown := HV.out
          unfold Vecs VRow at hown
          rw [hkl] at hown
          have HOw := Lib.hid (World.ownsRow.drew hown)
          have HB := Lib.hid hB
          have hws : w.heap.size + 1 ≤ wr.heap.size := Nat.le_trans hwp hB.size
          have HHk := Lib.hid hkl
          have h1000 : k ≤ 1000 := by omega
          clear hown HV HSm HX HZ HD HCl HE2 HB2 HW0 HW1 s1 s2 hX hY hkl hB h3 hBw hpr'
          go_wp2
          have hbl : bb < w.heap.size + 1 := Nat.lt_succ_of_lt hbb
          refine wp_region_any (by kernel_rfl) ?_
          try (change wpAny _ _ _ _ _ _ _ (World.drew _))
          refine wpAny_of_held (S := fun w' => Below (w.heap.size + 1) wr w') _ _ _ _ ?_
          have hSw : Below (w.heap.size + 1) wr (World.drew wr) := by go_grown
          generalize hwd : World.drew wr = wd at hSw ⊢
          refine wpAnyH_take (i := 0) (v := ?_) rfl (by kernel_rfl) (by kernel_rfl) (by kernel_rfl) (fun _ _ _ h => h) (Or.inl ⟨by rfl, ?_⟩) hSw ?_
          rotate_left
          focus (intro w0 hS0; clear hS0; go_simp; try with_reducible rfl)
          refine wpAnyH_take (i := 1) (v := ?_) rfl (by kernel_rfl) (by kernel_rfl) (by kernel_rfl) (fun _ _ _ h => h) (Or.inl ⟨by rfl, ?_⟩) hSw ?_
          rotate_left
          focus (intro w0 hS0; clear hS0; go_simp; try with_reducible rfl)
          refine wpAnyH_take (i := 2) (v := ?_) rfl (by kernel_rfl) (by kernel_rfl) (by kernel_rfl) (fun _ _ _ h => h) (Or.inl ⟨by rfl, ?_⟩) hSw ?_
          rotate_left
          focus (intro w0 hS0; clear hS0; go_simp; try with_reducible rfl)
          refine wpAnyH_take (i := 3) (v := ?_) rfl (by kernel_rfl) (by kernel_rfl) (by kernel_rfl) (fun _ _ _ h => h) (Or.inl ⟨by rfl, ?_⟩) hSw ?_
          rotate_left
          focus (intro w0 hS0; clear hS0; go_simp; try with_reducible rfl)
          refine wpAnyH_take (i := 4) (v := ?_) rfl (by kernel_rfl) (by kernel_rfl) (by kernel_rfl) (fun _ _ _ h => h) (Or.inl ⟨by rfl, ?_⟩) hSw ?_
          rotate_left
          focus (intro w0 hS0; clear hS0; go_simp; try with_reducible rfl)
          refine wpAnyH_take (i := 5) (v := ?_) rfl (by kernel_rfl) (by kernel_rfl) (by kernel_rfl) (fun _ _ _ h => h) (Or.inl ⟨by rfl, ?_⟩) hSw ?_
          rotate_left
          focus (intro w0 hS0; have c0 := (hS0.cell (p := ⟨bb, off + k * 2, none⟩) hbl).trans d0; have c1 := (hS0.cell (p := ⟨bb, off + k * 2 + 1, none⟩) hbl).trans d1; have c2 := (hS0.cell (p := ⟨w.heap.size, 0, none⟩) (Nat.lt_succ_self _)).trans y0; have c3 := (hS0.cell (p := ⟨w.heap.size, 1, none⟩) (Nat.lt_succ_self _)).trans y1; clear hS0; go_simp; try with_reducible rfl)
          refine wpAnyH_take (i := 6) (v := ?_) rfl (by kernel_rfl) (by kernel_rfl) (by kernel_rfl) (fun _ _ _ h => h) (Or.inl ⟨by rfl, ?_⟩) hSw ?_
          rotate_left
          focus (intro w0 hS0; clear hS0; go_simp; try with_reducible rfl)
          refine wpAnyH_take (i := 7) (v := ?_) rfl (by kernel_rfl) (by kernel_rfl) (by kernel_rfl) (fun _ _ _ h => h) (Or.inl ⟨by rfl, ?_⟩) hSw ?_
          rotate_left
          focus (intro w0 hS0; have c0 := (hS0.cell (p := ⟨bb, off + k * 2, none⟩) hbl).trans d0; have c1 := (hS0.cell (p := ⟨bb, off + k * 2 + 1, none⟩) hbl).trans d1; have c2 := (hS0.cell (p := ⟨w.heap.size, 0, none⟩) (Nat.lt_succ_self _)).trans y0; have c3 := (hS0.cell (p := ⟨w.heap.size, 1, none⟩) (Nat.lt_succ_self _)).trans y1; clear hS0; go_simp; try with_reducible rfl)
          refine wpAnyH_take (i := 8) (v := ?_) rfl (by kernel_rfl) (by kernel_rfl) (by kernel_rfl) (fun _ _ _ h => h) (Or.inl ⟨by rfl, ?_⟩) hSw ?_
          rotate_left
          focus (intro w0 hS0; clear hS0; go_simp; try with_reducible rfl)
          refine wpAnyH_take (i := 9) (v := ?_) rfl (by kernel_rfl) (by kernel_rfl) (by kernel_rfl) (fun _ _ _ h => h) (Or.inl ⟨by rfl, ?_⟩) hSw ?_
          rotate_left
          focus (intro w0 hS0; clear hS0; go_simp; try with_reducible rfl)
          refine wpAnyH_take (i := 10) (v := ?_) rfl (by kernel_rfl) (by kernel_rfl) (by kernel_rfl) (fun _ _ _ h => h) (Or.inl ⟨by rfl, ?_⟩) hSw ?_
          rotate_left
          focus (intro w0 hS0; clear hS0; go_simp; try with_reducible rfl)
          refine wpAnyH_take (i := 11) (v := ?_) rfl (by kernel_rfl) (by kernel_rfl) (by kernel_rfl) (fun _ _ _ h => h) (Or.inl ⟨by rfl, ?_⟩) hSw ?_
          rotate_left
          focus (intro w0 hS0; clear hS0; go_simp; try with_reducible rfl)
          refine wpAnyH_take (i := 12) (v := ?_) rfl (by kernel_rfl) (by kernel_rfl) (by kernel_rfl) (fun _ _ _ h => h) (Or.inl ⟨by rfl, ?_⟩) hSw ?_
          rotate_left
          focus (intro w0 hS0; clear hS0; go_simp; try with_reducible rfl)
          refine wpAnyH_take (i := 13) (v := ?_) rfl (by kernel_rfl) (by kernel_rfl) (by kernel_rfl) (fun _ _ _ h => h) (Or.inl ⟨by rfl, ?_⟩) hSw ?_
          rotate_left
          focus (intro w0 hS0; have c0 := (hS0.cell (p := ⟨bb, off + k * 2, none⟩) hbl).trans d0; have c1 := (hS0.cell (p := ⟨bb, off + k * 2 + 1, none⟩) hbl).trans d1; have c2 := (hS0.cell (p := ⟨w.heap.size, 0, none⟩) (Nat.lt_succ_self _)).trans y0; have c3 := (hS0.cell (p := ⟨w.heap.size, 1, none⟩) (Nat.lt_succ_self _)).trans y1; clear hS0; go_simp; try with_reducible rfl)
          refine wpAnyH_take (i := 14) (v := ?_) rfl (by kernel_rfl) (by kernel_rfl) (by kernel_rfl) (fun _ _ _ h => h) (Or.inl ⟨by rfl, ?_⟩) hSw ?_
          rotate_left
          focus (intro w0 hS0; clear hS0; go_simp; try with_reducible rfl)
          refine wpAnyH_take (i := 15) (v := ?_) rfl (by kernel_rfl) (by kernel_rfl) (by kernel_rfl) (fun _ _ _ h => h) (Or.inl ⟨by rfl, ?_⟩) hSw ?_
          rotate_left
          focus (intro w0 hS0; have c0 := (hS0.cell (p := ⟨bb, off + k * 2, none⟩) hbl).trans d0; have c1 := (hS0.cell (p := ⟨bb, off + k * 2 + 1, none⟩) hbl).trans d1; have c2 := (hS0.cell (p := ⟨w.heap.size, 0, none⟩) (Nat.lt_succ_self _)).trans y0; have c3 := (hS0.cell (p := ⟨w.heap.size, 1, none⟩) (Nat.lt_succ_self _)).trans y1; clear hS0; go_simp; try with_reducible rfl)
          refine wpAnyH_take (i := 16) (v := ?_) rfl (by kernel_rfl) (by kernel_rfl) (by kernel_rfl) (fun _ _ _ h => h) (Or.inl ⟨by rfl, ?_⟩) hSw ?_
          rotate_left
          focus (intro w0 hS0; clear hS0; go_simp; try with_reducible rfl)
          refine wpAnyH_take (i := 17) (v := ?_) rfl (by kernel_rfl) (by kernel_rfl) (by kernel_rfl) (fun _ _ _ h => h) (Or.inl ⟨by rfl, ?_⟩) hSw ?_
          rotate_left
          focus (intro w0 hS0; clear hS0; go_simp; try with_reducible rfl)
          refine wpAnyH_ready (rs := [18]) (by kernel_rfl) (by simp) (AllReadyH.cons rfl (fun K hK => ?_) (AllReadyH.nil))
          go_simp
          (have hwz : w.heap.size + 1 ≤ wd.heap.size := (by rw [← hwd]; exact hws); have HOz := HOw; rw [hwd] at HOz; replace hSw := hSw.alloc hwz (.cells #[.int .i64 X, .int .i64 Y] 25); refine hK.out _ _ hSw (fun _ => ?_); clear hK K)
          refine wpAnyH_ready (rs := [19]) (by kernel_rfl) (by simp) (AllReadyH.cons rfl (fun K hK => ?_) (AllReadyH.nil))
          (refine step_list (by rintro ⟨_, _, h⟩; obtain ⟨_, hv, _⟩ := h; cases hv) (by kernel_rfl) ?_; refine wpList_append_own_at _ rfl _ _ 23 rfl (w.heap.size + 1) 25 i0 (.agg #[.int .i64 (0), .int .i64 (0)]) 2 16 Tryz.underlying23 hi hz0 hz1 hz2 rfl (by decide) _ _ _ rfl (HOz.out.alloc _) ⟨_, 0, none⟩ 1 1 [.int .i64 X, .int .i64 Y] rfl rfl (vec_cells _ X Y _) (vec_one X Y) (by unfold maxLen; omega) (by omega) (by simp; omega) ?_; intro v' w4 hown' hgrow _ _; replace hSw := hSw.grown hgrow (by simp; omega) (fun k hk => (HOz.out.lt k hk).1); refine hK.out _ _ hSw (fun _ => ?_); clear hK K)
          refine wpAnyH_take (i := 20) (v := ?_) rfl (by kernel_rfl) (by kernel_rfl) (by kernel_rfl) (fun _ _ _ h => h) (Or.inl ⟨by rfl, ?_⟩) hSw ?_
          rotate_left
          focus (intro w0 hS0; clear hS0; go_simp; try with_reducible rfl)
          refine wpAnyH_done (by kernel_rfl) ?_ _
          have HB5 := Lib.hid (HB.out.trans hSw)
          have HVv := Lib.hid (Vecs.snoc (l := (List.range k).map (fun i => shiftF (p, r) (cyc l i))) HHk.out.symm hown')
          clear hown' hgrow hSw
          rw [← HXk.out] at HVv
          go_wp2
          go_roundw
          case rel => exact ⟨k + 1, by omega, by go_num, HVv, HB5.out⟩
          case measure => simp [intOf]; omega
        · obtain rfl : k = l.length := by omega
          have i2 : ¬ ((l.length : Nat) : Int) < (l.length : Int) := by omega
          have hI := HV.out
          rw [HZ.out] at hI
          have HH2 := Lib.hid (HD.out _ _ wr hI)
          have hs := hBw.size
          clear hI HV HD HX HZ HSm HCl HE2 HB2 HW0 HW1 hpr' hB
          go_wp2_with fail
          refine Calls.mono HH2.out ?_
          rintro e w3 ⟨v3, rfl, I3, hb3⟩
          have HB := Lib.hid (belowTo hBw hb3)
          have HI3 := Lib.hid (I3.lower hs)
          clear hb3 I3 hBw
          go_wp2
          go_returns
          exact ⟨_, rfl, HI3.out, HB.out⟩
end Go.Proofs.YtgaeibibeekclaaGreatDoor
