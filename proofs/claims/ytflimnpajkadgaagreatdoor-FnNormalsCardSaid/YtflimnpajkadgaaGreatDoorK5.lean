import Derived.Test.YtflimnpajkadgaaGreatDoorWn
import Derived.Test.YtflimnpajkadgaaGreatDoorK1
import Derived.Test.YtflimnpajkadgaaGreatDoorB9
import Derived.Test.YtflimnpajkadgaaGreatDoorWf
import Derived.Test.YtflimnpajkadgaaGreatDoorSu
/- Polygons: normals: the program. -/
namespace Go.Proofs.YtflimnpajkadgaaGreatDoor
open Go.RowKit

theorem nrm_snoc (l : List V2) (k : Nat) : (List.range (k + 1)).map (nrmZ l) = (List.range k).map (nrmZ l) ++ [nrmZ l k] := by simp [List.range_succ]
set_option maxRecDepth 100000 in
set_option maxHeartbeats 16000000 in
theorem normals_any (v : Value) (l : List V2) (w : World) (h : ReadsVecs w v l) (hp : polyB l = true) :
    Calls Tryz.prog 33 #[v] w (GivesVecs w (nrmL l)) := by
  obtain ⟨i0, hi, hz0, hz1, hz2⟩ := info_parts infoVec
  have h30 := poly_len hp
  have h0 : 0 < l.length := by omega
  have HWy := Lib.hid (fun w' (hb : Below w.heap.size w w') => ways_any v l w' (h.below hb) h0 (by omega) (fun i => by have := poly_small hp i; unfold big; omega))
  have HWc := Lib.hid (fun i => cyc_ways h0 i)
  have HWv := Lib.hid (fun i => way_vec hp i)
  have HWn := Lib.hid (fun i => way_nz hp i)
  have HWl := Lib.hid (waysL_len l)
  have HX := Lib.hid (fun k => nrm_snoc l k)
  have HNz : Hid (∀ k, nrmZ l k = (-((wayZ l k).2.tdiv (gcdZ (wayZ l k).1 (wayZ l k).2)), (wayZ l k).1.tdiv (gcdZ (wayZ l k).1 (wayZ l k).2))) := fun _ => rfl
  have HZ : Hid (nrmL l = (List.range l.length).map (nrmZ l)) := rfl
  obtain ⟨a, c, rfl, _⟩ := h
  clear hp
  go_enter Tryz.func33, Tryz.ntmps33
  go_wp2_with fail
  refine Calls.mono (HWy.out _ (by go_grown)) ?_
  rintro e W1 ⟨v1, rfl, hI, hb1⟩
  have HB1 := Lib.hid (show Below w.heap.size w W1 from belowTo (by go_grown) hb1)
  obtain ⟨bw, ow, wc, rfl, _, _, hbw, hws⟩ := (hI.reads (by rw [waysL_len]; omega)).open (by rw [waysL_len]; exact h0)
  have HWS := Lib.hid hws
  clear hb1 hI hws HWy
  have hsW := HB1.out.size
  have hwl := HWl.out
  generalize hn : (waysL l).length = n at *
  subst hwl
  clear hn
  go_wp2
  go_loopw [3, 11] (fun s3 s wr => ∃ k : Nat, k ≤ l.length ∧ s = .int .i64 k ∧ Hid (Vecs wr W1.heap.size s3 ((List.range k).map (nrmZ l))) ∧ Below W1.heap.size W1 wr) (fun _ s _ => l.length - (intOf s).toNat)
  case atStart => exact ⟨0, Nat.zero_le _, rfl, Vecs.nil _ _, Below.refl _ _⟩
  case round =>
    obtain ⟨k, hk, rfl, HI, hB⟩ := hrel
    have i1 : (0 : Int) ≤ (k : Int) := by omega
    by_cases hlt : k < l.length
    · have i2 : (k : Int) < (l.length : Int) := by omega
      obtain ⟨d0, d1⟩ := HWS.out wr hB k hlt
      rw [HWc.out k] at d0 d1
      have hv := HWv.out k
      have hnz := HWn.out k
      have HXk := Lib.hid (HX.out k)
      rw [HNz.out k] at HXk
      have HP := Lib.hid (fun w' => primitive_any _ _ w' hv hnz)
      obtain ⟨b1, b2⟩ := szs hv
      have q1 := tdiv_bd (m := gcdZ (wayZ l k).1 (wayZ l k).2) b1
      have q2 := tdiv_bd (m := gcdZ (wayZ l k).1 (wayZ l k).2) b2
      have hkl : ((List.range k).map (nrmZ l)).length = k := by simp
      generalize (wayZ l k).1.tdiv (gcdZ (wayZ l k).1 (wayZ l k).2) = px at *
      generalize (wayZ l k).2.tdiv (gcdZ (wayZ l k).1 (wayZ l k).2) = py at *
      generalize gcdZ (wayZ l k).1 (wayZ l k).2 = g at *
      generalize wayZ l k = U at *
      obtain ⟨u1, u2⟩ := U
      dsimp only at d0 d1 HP
      have HT := Lib.hid (fun w' => turn_any px py w' (vec_of ⟨q1, q2⟩))
      have hs := hB.size
      clear HWc HWv HWn HX HNz HWS b1 b2 q1 q2 hv hnz
      go_wp2_with fail
      refine Calls.mono (HP.out _) ?_
      rintro e w2 ⟨rfl, hb2⟩
      have hb3 : Below wr.heap.size wr w2 := belowTo (by go_grown) hb2
      have HI2 := Lib.hid (HI.out.below hb3)
      have hB2 := hB.trans (hb3.mono hs)
      clear hb2 hb3 HI d0 d1 HP
      go_wp2_with fail
      refine Calls.mono (HT.out _) ?_
      rintro e w3 ⟨rfl, hb3⟩
      have hb4 : Below w2.heap.size w2 w3 := belowTo (by go_grown) hb3
      have hB3 := belowTo hB2 hb4
      have hown := HI2.out.below hb4
      unfold Vecs VRow at hown
      rw [hkl] at hown
      have hbs := hB3.size
      clear hb3 hb4 HT HI2 hB2
      go_wp2_with (at_builtin; refine wpList_append_own_at _ rfl _ _ 23 rfl W1.heap.size 46 i0 (.agg #[.int .i64 (0), .int .i64 (0)]) 2 16 Tryz.underlying23 hi hz0 hz1 hz2 rfl (by decide) _ _ _ rfl (hown.alloc _) ⟨_, 0, none⟩ 1 1 [.int .i64 (-py), .int .i64 px] rfl rfl ?c1 ?c2 ?c3 ?c4 ?c5 ?_)
      case c1 =>
        intro j u hj
        match j, hj with
        | 0, hj => simp at hj; subst hj; simp [Addr.add]
        | 1, hj => simp at hj; subst hj; simp [Addr.add]
      case c2 => intro u hu; simp at hu; rcases hu with rfl | rfl <;> rfl
      case c3 => unfold maxLen; omega
      case c4 => omega
      case c5 => simp; omega
      intro v' w4 hown' hgrow _ _
      have hB5 := (hB3.alloc hbs _).grown hgrow (by simp; omega) (fun k hk => (hown.lt k hk).1)
      have HVv := Lib.hid (Vecs.snoc (l := (List.range k).map (nrmZ l)) hkl.symm hown')
      rw [← HXk.out] at HVv
      clear hown' hgrow hown hB3 hkl hbs
      go_wp2
      go_roundw
      case rel => exact ⟨k + 1, by omega, by go_num, HVv, hB5⟩
      case measure => simp [intOf]; omega
    · obtain rfl : k = l.length := by omega
      have i2 : ¬ ((l.length : Nat) : Int) < (l.length : Int) := by omega
      have HI2 := Lib.hid (HI.out.lower hsW)
      rw [← HZ.out] at HI2
      clear HI
      go_wp2
      go_returns
      exact ⟨_, rfl, HI2.out, HB1.out.trans (hB.mono hsW)⟩
set_option maxHeartbeats 4000000 in
theorem polygonNormals_any (v : Value) (l : List V2) (w : World) (h : ReadsVecs w v l) (hg : EtOk w) :
    Calls Tryz.prog 16 #[v] w (GivesVecsOk w (gV (polyB l && fanB (nrmL l)) (tidyL (nrmL l))) (polyB l && fanB (nrmL l))) := by
  have HC := Lib.hid (polyCheck_any v l w h)
  have HN := Lib.hid (fun w' (hb : Below w.heap.size w w') hp => normals_any v l w' (h.below hb) hp)
  have HT := Lib.hid (fun v' b' w' (hI : Vecs w' b' v' (nrmL l)) (hm : (nrmL l).length ≤ 576460752303423488) (hb : Below w.heap.size w w') => fanTidy_any v' (nrmL l) w' (hI.reads hm) (hg.below hb))
  have HLe : Hid ((nrmL l).length ≤ 576460752303423488) := by show _ ≤ _; rw [nrm_len]; obtain ⟨_, _, _, _, hm, _⟩ := h; exact hm
  obtain ⟨a, c, rfl, _⟩ := h
  cases hk : polyB l
  · rw [hk] at HC
    clear hk HN HT
    go_enter Tryz.func16, Tryz.ntmps16
    go_wp2_with fail
    refine Calls.mono HC.out ?_
    rintro e w1 ⟨⟨s, rfl⟩, hb1⟩
    go_wp2_with fail
    refine Calls.mono (none_hit s _ (hg.below hb1)) ?_
    rintro e w2 ⟨rfl, hb2⟩
    have hb := belowTo hb1 hb2
    clear hb1 hb2
    go_wp2
    go_returns
    exact ⟨_, rfl, Vecs.nil _ _, hb⟩
  · rw [hk] at HC
    have HK := Lib.hid hk
    clear hk
    have HC2 := Lib.hid (HC.out.mono (fun e w' h => (⟨h.1, h.2⟩ : e = .returned .nilIface ∧ Below w.heap.size w w')))
    clear HC
    rw [Bool.true_and]
    generalize fanB (nrmL l) = F at *
    generalize gV F (tidyL (nrmL l)) = L at *
    generalize nrmL l = N at *
    go_enter Tryz.func16, Tryz.ntmps16
    go_wp2_with fail
    refine Calls.mono HC2.out ?_
    rintro e w1 ⟨rfl, hb⟩
    go_wp2_with fail
    refine Calls.mono (none_nil _) ?_
    rintro e w2 ⟨rfl, hb2⟩
    replace hb := belowTo hb hb2
    clear hb2
    go_wp2_with fail
    refine Calls.mono (HN.out _ hb HK.out) ?_
    rintro e w3 ⟨v3, rfl, hI, hb3⟩
    have HT2 := Lib.hid (HT.out v3 _ _ hI HLe.out (belowTo hb hb3))
    replace hb := belowTo hb hb3
    clear hb3 hI HT HN
    go_wp2_with fail
    refine Calls.mono HT2.out ?_
    rintro e w4 ⟨v4, rfl, hI4, hb4⟩
    have HI4 := Lib.hid (hI4.lower hb.size)
    replace hb := belowTo hb hb4
    clear hb4 hI4 HT2
    go_wp2
    go_returns
    exact ⟨_, rfl, HI4.out, hb⟩
end Go.Proofs.YtflimnpajkadgaaGreatDoor

/- Polygons, the model's side: normals. -/
namespace Go.Proofs.YtflimnpajkadgaaGreatDoor
open Go.RowKit

theorem nrm_snoc' (l : List V2) (k : Nat) : (List.range (k + 1)).map (nrmZ l) = (List.range k).map (nrmZ l) ++ [nrmZ l k] := by simp [List.range_succ]
theorem nz_of {x y : Int} (h : ¬ (x = 0 ∧ y = 0)) : nzB x y = true := by
  cases k : nzB x y
  · exact (h (by simpa [nzB] using k)).elim
  · rfl
set_option maxRecDepth 100000 in
set_option maxHeartbeats 32000000 in
theorem specPolygonNormals_any (v : Value) (l : List V2) (w : World) (h : ReadsVecs w v l) :
    Calls Tryz.prog 17 #[v] w (GivesVecsOk w (gV (polyB l && fanB (nrmL l)) (tidyL (nrmL l))) (polyB l && fanB (nrmL l))) := by
  obtain ⟨i0, hi, hz0, hz1, hz2⟩ := info_parts infoVec
  have HC := Lib.hid (fun w' (hb : Below w.heap.size w w') => specPolygonIn_any v l w' (h.below hb))
  have hE := Lib.hid (fun w' => Vecs.empty w')
  cases hk : polyB l
  · rw [hk] at HC
    obtain ⟨a, c, rfl, _⟩ := h
    clear hk
    go_enter Tryz.func17, Tryz.ntmps17
    go_wp2_with fail
    refine Calls.mono (HC.out _ (by go_grown)) ?_
    rintro e w1 ⟨rfl, hb1⟩
    have hb : Below w.heap.size w w1 := belowTo (by go_grown) hb1
    have HE1 := Lib.hid ((hE.out w).below hb1)
    clear hb1 hE
    go_wp2
    go_returns
    exact ⟨_, rfl, HE1.out, hb⟩
  · rw [hk] at HC
    have h30 := poly_len hk
    have h0 : 0 < l.length := by omega
    rw [Bool.true_and]
    obtain ⟨bb, off, vc, rfl, _, _, hbv, hvs⟩ := h.open h0
    have HVS := Lib.hid hvs
    have HMb := Lib.hid (fun i => poly_small hk i)
    have HWv := Lib.hid (fun i => way_vec hk i)
    have HWn := Lib.hid (fun i => nz_of (way_nz hk i))
    have HX := Lib.hid (fun k => nrm_snoc' l k)
    have HWz : Hid (∀ i, wayZ l i = ((cyc l (i + 1)).1 - (cyc l i).1, (cyc l (i + 1)).2 - (cyc l i).2)) := fun _ => rfl
    have HNz : Hid (∀ k, nrmZ l k = (-((wayZ l k).2.tdiv (gcdZ (wayZ l k).1 (wayZ l k).2)), (wayZ l k).1.tdiv (gcdZ (wayZ l k).1 (wayZ l k).2))) := fun _ => rfl
    have HZ : Hid (nrmL l = (List.range l.length).map (nrmZ l)) := rfl
    have HFo := Lib.hid (fun v' w' hV => specFanOf_any v' (nrmL l) w' hV (by rw [nrm_len]; omega))
    obtain ⟨e1, e2⟩ := nrm_fan hk
    rw [e1, e2] at HFo
    have HLn := Lib.hid (nrm_len l)
    generalize fanB (nrmL l) = F at *
    generalize gV F (tidyL (nrmL l)) = R at *
    generalize nrmL l = N at *
    clear h hvs hk e1 e2
    go_enter Tryz.func17, Tryz.ntmps17
    go_wp2_with fail
    refine Calls.mono (HC.out _ (by go_grown)) ?_
    rintro e w1 ⟨rfl, hb1⟩
    have hB1 : Below w.heap.size w w1 := belowTo (by go_grown) hb1
    have HE1 := Lib.hid ((hE.out w).below hb1)
    clear hb1 hE HC
    go_wp2
    go_loopw [4, 5] (fun s4 s5 wr => ∃ k : Nat, k ≤ l.length ∧ s5 = .int .i64 k ∧ Hid (Vecs wr w.heap.size s4 ((List.range k).map (nrmZ l))) ∧ Below w.heap.size w wr) (fun _ s5 _ => l.length - (intOf s5).toNat)
    case atStart => exact ⟨0, Nat.zero_le _, rfl, HE1.out, hB1⟩
    case round =>
      obtain ⟨k, hk, rfl, HI, hB⟩ := hrel
      have i1 : (0 : Int) ≤ (k : Int) := by omega
      by_cases hlt : k < l.length
      · have i2 : (k : Int) < (l.length : Int) := by omega
        have hq : (k + 1) % l.length < l.length := Nat.mod_lt _ h0
        have j3 : (0 : Int) ≤ (((k + 1) % l.length : Nat) : Int) := by omega
        have j4 : (((k + 1) % l.length : Nat) : Int) < (l.length : Int) := by omega
        have j5 : ¬ (l.length : Int) = 0 := by omega
        have j6 : ((l.length : Int) == 0) = false := by simpa using j5
        have j7 : ¬ l.length = 0 := by omega
        have t2 := next_is k l.length
        have q0 : IntKind.i64.wrap ((k : Int) + 1) = (k : Int) + 1 := by rw [IntKind.wrap_i64]; omega
        obtain ⟨d0, d1⟩ := HVS.out wr hB k hlt
        obtain ⟨d2, d3⟩ := HVS.out wr hB _ hq
        rw [cyc_mod] at d2 d3
        have b0 := HMb.out k
        have b1 := HMb.out (k + 1)
        have hv := HWv.out k
        have hnz := HWn.out k
        have HXk := Lib.hid (HX.out k)
        rw [HNz.out k] at HXk
        rw [HWz.out k] at hv hnz HXk
        have hkl : ((List.range k).map (nrmZ l)).length = k := by simp
        generalize cyc l k = V at *
        generalize cyc l (k + 1) = U at *
        obtain ⟨x1, y1⟩ := V
        obtain ⟨x2, y2⟩ := U
        dsimp only at d0 d1 d2 d3 HXk b0 b1 hv hnz
        generalize (k + 1) % l.length = q at *
        have HW1 := Lib.hid (fun w' => l6gWay_any x1 y1 x2 y2 w' (by unfold big; omega) (by unfold big; omega))
        have HP := Lib.hid (fun w' => l1Primitive_any (x2 - x1) (y2 - y1) w' hv hnz)
        obtain ⟨c1, c2⟩ := szs hv
        have p1 := tdiv_bd (m := gcdZ (x2 - x1) (y2 - y1)) c1
        have p2 := tdiv_bd (m := gcdZ (x2 - x1) (y2 - y1)) c2
        generalize (x2 - x1).tdiv (gcdZ (x2 - x1) (y2 - y1)) = px at *
        generalize (y2 - y1).tdiv (gcdZ (x2 - x1) (y2 - y1)) = py at *
        have q1 : IntKind.i64.wrap (-py) = -py := by rw [IntKind.wrap_i64]; omega
        clear HMb HWv HWn HX HNz HWz HVS b0 b1 hv hnz c1 c2 p1 p2
        go_wp2
        refine wp_region_any (by kernel_rfl) ?_
        try (change wpAny _ _ _ _ _ _ _ (World.drew _))
        refine wpAny_of_held (S := fun w' => Below (wr.heap.size) wr w') _ _ _ _ ?_
        have hSw : Below (wr.heap.size) wr (World.drew wr) := by go_grown
        generalize World.drew wr = wd at hSw ⊢
        refine wpAnyH_take (i := 0) (v := ?_) rfl (by kernel_rfl) (by kernel_rfl) (by kernel_rfl) (fun _ _ _ h => h) (Or.inl ⟨by rfl, ?_⟩) hSw ?_
        rotate_left
        focus (intro w0 hS0; clear hS0; go_simp; try with_reducible rfl)
        refine wpAnyH_take (i := 1) (v := ?_) rfl (by kernel_rfl) (by kernel_rfl) (by kernel_rfl) (fun _ _ _ h => h) (Or.inl ⟨by rfl, ?_⟩) hSw ?_
        rotate_left
        focus (intro w0 hS0; clear hS0; go_simp; try with_reducible rfl)
        refine wpAnyH_take (i := 2) (v := ?_) rfl (by kernel_rfl) (by kernel_rfl) (by kernel_rfl) (fun _ _ _ h => h) (Or.inl ⟨by rfl, ?_⟩) hSw ?_
        rotate_left
        focus (intro w0 hS0; clear hS0; go_simp; try with_reducible rfl)
        refine wpAnyH_take (i := 3) (v := ?_) rfl (by kernel_rfl) (by kernel_rfl) (by kernel_rfl) (fun _ _ _ h => h) (Or.inl ⟨by rfl, ?_⟩) hSw ?_
        rotate_left
        focus (intro w0 hS0; have c0 := (hS0.cell (p := ⟨bb, off + k * 2, none⟩) (cell_lt d0)).trans d0; have c1 := (hS0.cell (p := ⟨bb, off + k * 2 + 1, none⟩) (cell_lt d0)).trans d1; have c2 := (hS0.cell (p := ⟨bb, off + q * 2, none⟩) (cell_lt d2)).trans d2; have c3 := (hS0.cell (p := ⟨bb, off + q * 2 + 1, none⟩) (cell_lt d2)).trans d3; clear hS0; go_simp; try with_reducible rfl)
        refine wpAnyH_take (i := 4) (v := ?_) rfl (by kernel_rfl) (by kernel_rfl) (by kernel_rfl) (fun _ _ _ h => h) (Or.inl ⟨by rfl, ?_⟩) hSw ?_
        rotate_left
        focus (intro w0 hS0; clear hS0; go_simp; try with_reducible rfl)
        refine wpAnyH_take (i := 5) (v := ?_) rfl (by kernel_rfl) (by kernel_rfl) (by kernel_rfl) (fun _ _ _ h => h) (Or.inl ⟨by rfl, ?_⟩) hSw ?_
        rotate_left
        focus (intro w0 hS0; clear hS0; go_simp; try with_reducible rfl)
        refine wpAnyH_take (i := 6) (v := ?_) rfl (by kernel_rfl) (by kernel_rfl) (by kernel_rfl) (fun _ _ _ h => h) (Or.inl ⟨by rfl, ?_⟩) hSw ?_
        rotate_left
        focus (intro w0 hS0; clear hS0; go_simp; try with_reducible rfl)
        refine wpAnyH_take (i := 7) (v := ?_) rfl (by kernel_rfl) (by kernel_rfl) (by kernel_rfl) (fun _ _ _ h => h) (Or.inl ⟨by rfl, ?_⟩) hSw ?_
        rotate_left
        focus (intro w0 hS0; clear hS0; go_simp; try with_reducible rfl)
        refine wpAnyH_take (i := 8) (v := ?_) rfl (by kernel_rfl) (by kernel_rfl) (by kernel_rfl) (fun _ _ _ h => h) (Or.inl ⟨by rfl, ?_⟩) hSw ?_
        rotate_left
        focus (intro w0 hS0; clear hS0; go_simp; try with_reducible rfl)
        refine wpAnyH_take (i := 9) (v := ?_) rfl (by kernel_rfl) (by kernel_rfl) (by kernel_rfl) (fun _ _ _ h => h) (Or.inl ⟨by rfl, ?_⟩) hSw ?_
        rotate_left
        focus (intro w0 hS0; clear hS0; go_simp; try with_reducible rfl)
        refine wpAnyH_take (i := 10) (v := ?_) rfl (by kernel_rfl) (by kernel_rfl) (by kernel_rfl) (fun _ _ _ h => h) (Or.inl ⟨by rfl, ?_⟩) hSw ?_
        rotate_left
        focus (intro w0 hS0; clear hS0; go_simp; try with_reducible rfl)
        refine wpAnyH_take (i := 11) (v := ?_) rfl (by kernel_rfl) (by kernel_rfl) (by kernel_rfl) (fun _ _ _ h => h) (Or.inl ⟨by rfl, ?_⟩) hSw ?_
        rotate_left
        focus (intro w0 hS0; have c0 := (hS0.cell (p := ⟨bb, off + k * 2, none⟩) (cell_lt d0)).trans d0; have c1 := (hS0.cell (p := ⟨bb, off + k * 2 + 1, none⟩) (cell_lt d0)).trans d1; have c2 := (hS0.cell (p := ⟨bb, off + q * 2, none⟩) (cell_lt d2)).trans d2; have c3 := (hS0.cell (p := ⟨bb, off + q * 2 + 1, none⟩) (cell_lt d2)).trans d3; clear hS0; go_simp; try with_reducible rfl)
        refine wpAnyH_ready (rs := [12, 14]) (by kernel_rfl) (by simp) (AllReadyH.cons rfl (fun K hK => ?_) (AllReadyH.cons rfl (fun K hK => ?_) (AllReadyH.nil)))
        focus
          go_simp
          (refine Calls.mono (HW1.out _) ?_; rintro e w4 ⟨rfl, hbX⟩;  replace hSw := belowTo hSw hbX; refine hK.out _ _ hSw (fun _ => ?_); clear hK K hbX)
          refine wpAnyH_ready (rs := [13, 14]) (by kernel_rfl) (by simp) (AllReadyH.cons rfl (fun K hK => ?_) (AllReadyH.cons rfl (fun K hK => ?_) (AllReadyH.nil)))
          focus
            go_simp
            (refine Calls.mono (HP.out _) ?_; rintro e w6 ⟨rfl, hbX⟩;  replace hSw := belowTo hSw hbX; refine hK.out _ _ hSw (fun _ => ?_); clear hK K hbX)
            refine wpAnyH_ready (rs := [14]) (by kernel_rfl) (by simp) (AllReadyH.cons rfl (fun K hK => ?_) (AllReadyH.nil))
            go_simp
            (have hSa : Below wr.heap.size wr (w6.alloc (.cells #[.int .i64 0, .int .i64 0] 46)) := hSw.alloc hSw.size _; have Bay0 : (w6.alloc (.cells #[.int .i64 0, .int .i64 0] 46)).cell? ⟨w6.heap.size, 0, none⟩ = some (.int .i64 0) := (by simp); have Bay1 : (w6.alloc (.cells #[.int .i64 0, .int .i64 0] 46)).cell? ⟨w6.heap.size, 1, none⟩ = some (.int .i64 0) := (by simp); have Bayf : ∀ o, (w6.alloc (.cells #[.int .i64 0, .int .i64 0] 46)).frozen? ⟨w6.heap.size, o, none⟩ = false := (fun o => by simp); have Baya := hSw.size; replace hSw := hSa; clear hSa; refine hK.out _ _ hSw (fun _ => ?_); clear hK K; generalize w6.alloc (.cells #[.int .i64 0, .int .i64 0] 46) = wa at *; generalize w6.heap.size = Ba at *)
            refine wpAnyH_ready (rs := [15]) (by kernel_rfl) (by simp) (AllReadyH.cons rfl (fun K hK => ?_) (AllReadyH.nil))
            go_simp
            (have z0 := Bayf 0; have z1 := Bayf 1; have g0 : ((wa.setCell ⟨Ba, 0, none⟩ (.int .i64 (px))).setCell ⟨Ba, 1, none⟩ (.int .i64 (py))).cell? ⟨Ba, 0, none⟩ = some (.int .i64 (px)) := (by first | (go_cell; done) | (go_simp; done) | (simp; done)); have g1 : ((wa.setCell ⟨Ba, 0, none⟩ (.int .i64 (px))).setCell ⟨Ba, 1, none⟩ (.int .i64 (py))).cell? ⟨Ba, 1, none⟩ = some (.int .i64 (py)) := (by first | (go_cell; done) | (go_simp; done) | (simp; done)); have hSE : Below wr.heap.size wr ((wa.setCell ⟨Ba, 0, none⟩ (.int .i64 (px))).setCell ⟨Ba, 1, none⟩ (.int .i64 (py))) := (hSw.setCell (p := ⟨Ba, 0, none⟩) Baya _).setCell (p := ⟨Ba, 1, none⟩) Baya _; refine hK.out _ _ hSE (fun _ => ?_); clear hK K hSw Bay0 Bay1 Bayf Baya z0 z1; generalize ((wa.setCell ⟨Ba, 0, none⟩ (.int .i64 (px))).setCell ⟨Ba, 1, none⟩ (.int .i64 (py))) = W5 at *)
            refine wpAnyH_done (by kernel_rfl) ?_ _
          rotate_left 1
          focus
            go_simp
            (have hSa : Below wr.heap.size wr (w4.alloc (.cells #[.int .i64 0, .int .i64 0] 46)) := hSw.alloc hSw.size _; have Bay0 : (w4.alloc (.cells #[.int .i64 0, .int .i64 0] 46)).cell? ⟨w4.heap.size, 0, none⟩ = some (.int .i64 0) := (by simp); have Bay1 : (w4.alloc (.cells #[.int .i64 0, .int .i64 0] 46)).cell? ⟨w4.heap.size, 1, none⟩ = some (.int .i64 0) := (by simp); have Bayf : ∀ o, (w4.alloc (.cells #[.int .i64 0, .int .i64 0] 46)).frozen? ⟨w4.heap.size, o, none⟩ = false := (fun o => by simp); have Baya := hSw.size; replace hSw := hSa; clear hSa; refine hK.out _ _ hSw (fun _ => ?_); clear hK K; generalize w4.alloc (.cells #[.int .i64 0, .int .i64 0] 46) = wa at *; generalize w4.heap.size = Ba at *)
            refine wpAnyH_ready (rs := [13]) (by kernel_rfl) (by simp) (AllReadyH.cons rfl (fun K hK => ?_) (AllReadyH.nil))
            go_simp
            (refine Calls.mono (HP.out _) ?_; rintro e w6 ⟨rfl, hbX⟩; replace Bay1 := (hbX.cell (p := ⟨Ba, 1, none⟩) (cell_lt Bay0)).trans Bay1; replace Bayf := (fun o => (hbX.frozen (p := ⟨Ba, o, none⟩) (cell_lt Bay0)).trans (Bayf o)); replace Bay0 := (hbX.cell (p := ⟨Ba, 0, none⟩) (cell_lt Bay0)).trans Bay0; replace hSw := belowTo hSw hbX; refine hK.out _ _ hSw (fun _ => ?_); clear hK K hbX)
            refine wpAnyH_ready (rs := [15]) (by kernel_rfl) (by simp) (AllReadyH.cons rfl (fun K hK => ?_) (AllReadyH.nil))
            go_simp
            (have z0 := Bayf 0; have z1 := Bayf 1; have g0 : ((w6.setCell ⟨Ba, 0, none⟩ (.int .i64 (px))).setCell ⟨Ba, 1, none⟩ (.int .i64 (py))).cell? ⟨Ba, 0, none⟩ = some (.int .i64 (px)) := (by first | (go_cell; done) | (go_simp; done) | (simp; done)); have g1 : ((w6.setCell ⟨Ba, 0, none⟩ (.int .i64 (px))).setCell ⟨Ba, 1, none⟩ (.int .i64 (py))).cell? ⟨Ba, 1, none⟩ = some (.int .i64 (py)) := (by first | (go_cell; done) | (go_simp; done) | (simp; done)); have hSE : Below wr.heap.size wr ((w6.setCell ⟨Ba, 0, none⟩ (.int .i64 (px))).setCell ⟨Ba, 1, none⟩ (.int .i64 (py))) := (hSw.setCell (p := ⟨Ba, 0, none⟩) Baya _).setCell (p := ⟨Ba, 1, none⟩) Baya _; refine hK.out _ _ hSE (fun _ => ?_); clear hK K hSw Bay0 Bay1 Bayf Baya z0 z1; generalize ((w6.setCell ⟨Ba, 0, none⟩ (.int .i64 (px))).setCell ⟨Ba, 1, none⟩ (.int .i64 (py))) = W5 at *)
            refine wpAnyH_done (by kernel_rfl) ?_ _
        rotate_left 2
        focus
          go_simp
          (have hSa : Below wr.heap.size wr (wd.alloc (.cells #[.int .i64 0, .int .i64 0] 46)) := hSw.alloc hSw.size _; have Bay0 : (wd.alloc (.cells #[.int .i64 0, .int .i64 0] 46)).cell? ⟨wd.heap.size, 0, none⟩ = some (.int .i64 0) := (by simp); have Bay1 : (wd.alloc (.cells #[.int .i64 0, .int .i64 0] 46)).cell? ⟨wd.heap.size, 1, none⟩ = some (.int .i64 0) := (by simp); have Bayf : ∀ o, (wd.alloc (.cells #[.int .i64 0, .int .i64 0] 46)).frozen? ⟨wd.heap.size, o, none⟩ = false := (fun o => by simp); have Baya := hSw.size; replace hSw := hSa; clear hSa; refine hK.out _ _ hSw (fun _ => ?_); clear hK K; generalize wd.alloc (.cells #[.int .i64 0, .int .i64 0] 46) = wa at *; generalize wd.heap.size = Ba at *)
          refine wpAnyH_ready (rs := [12]) (by kernel_rfl) (by simp) (AllReadyH.cons rfl (fun K hK => ?_) (AllReadyH.nil))
          go_simp
          (refine Calls.mono (HW1.out _) ?_; rintro e w4 ⟨rfl, hbX⟩; replace Bay1 := (hbX.cell (p := ⟨Ba, 1, none⟩) (cell_lt Bay0)).trans Bay1; replace Bayf := (fun o => (hbX.frozen (p := ⟨Ba, o, none⟩) (cell_lt Bay0)).trans (Bayf o)); replace Bay0 := (hbX.cell (p := ⟨Ba, 0, none⟩) (cell_lt Bay0)).trans Bay0; replace hSw := belowTo hSw hbX; refine hK.out _ _ hSw (fun _ => ?_); clear hK K hbX)
          refine wpAnyH_ready (rs := [13]) (by kernel_rfl) (by simp) (AllReadyH.cons rfl (fun K hK => ?_) (AllReadyH.nil))
          go_simp
          (refine Calls.mono (HP.out _) ?_; rintro e w6 ⟨rfl, hbX⟩; replace Bay1 := (hbX.cell (p := ⟨Ba, 1, none⟩) (cell_lt Bay0)).trans Bay1; replace Bayf := (fun o => (hbX.frozen (p := ⟨Ba, o, none⟩) (cell_lt Bay0)).trans (Bayf o)); replace Bay0 := (hbX.cell (p := ⟨Ba, 0, none⟩) (cell_lt Bay0)).trans Bay0; replace hSw := belowTo hSw hbX; refine hK.out _ _ hSw (fun _ => ?_); clear hK K hbX)
          refine wpAnyH_ready (rs := [15]) (by kernel_rfl) (by simp) (AllReadyH.cons rfl (fun K hK => ?_) (AllReadyH.nil))
          go_simp
          (have z0 := Bayf 0; have z1 := Bayf 1; have g0 : ((w6.setCell ⟨Ba, 0, none⟩ (.int .i64 (px))).setCell ⟨Ba, 1, none⟩ (.int .i64 (py))).cell? ⟨Ba, 0, none⟩ = some (.int .i64 (px)) := (by first | (go_cell; done) | (go_simp; done) | (simp; done)); have g1 : ((w6.setCell ⟨Ba, 0, none⟩ (.int .i64 (px))).setCell ⟨Ba, 1, none⟩ (.int .i64 (py))).cell? ⟨Ba, 1, none⟩ = some (.int .i64 (py)) := (by first | (go_cell; done) | (go_simp; done) | (simp; done)); have hSE : Below wr.heap.size wr ((w6.setCell ⟨Ba, 0, none⟩ (.int .i64 (px))).setCell ⟨Ba, 1, none⟩ (.int .i64 (py))) := (hSw.setCell (p := ⟨Ba, 0, none⟩) Baya _).setCell (p := ⟨Ba, 1, none⟩) Baya _; refine hK.out _ _ hSE (fun _ => ?_); clear hK K hSw Bay0 Bay1 Bayf Baya z0 z1; generalize ((w6.setCell ⟨Ba, 0, none⟩ (.int .i64 (px))).setCell ⟨Ba, 1, none⟩ (.int .i64 (py))) = W5 at *)
          refine wpAnyH_done (by kernel_rfl) ?_ _
        all_goals
          have hB5 := belowTo hB hSE
          have hown := HI.out.below hSE
          unfold Vecs VRow at hown
          rw [hkl] at hown
          have hbs := hB5.size
          clear hSE d0 d1 d2 d3
          go_wp2_with (at_builtin; refine wpList_append_own_at _ rfl _ _ 23 rfl w.heap.size 46 i0 (.agg #[.int .i64 (0), .int .i64 (0)]) 2 16 Tryz.underlying23 hi hz0 hz1 hz2 rfl (by decide) _ _ _ rfl (hown.alloc _) ⟨_, 0, none⟩ 1 1 [.int .i64 (-py), .int .i64 px] rfl rfl ?c1 ?c2 ?c3 ?c4 ?c5 ?_)
          case c1 =>
            intro j u hj
            match j, hj with
            | 0, hj => simp at hj; subst hj; simp [Addr.add]
            | 1, hj => simp at hj; subst hj; simp [Addr.add]
          case c2 => intro u hu; simp at hu; rcases hu with rfl | rfl <;> rfl
          case c3 => unfold maxLen; omega
          case c4 => omega
          case c5 => simp; omega
          intro v' w4 hown' hgrow _ _
          have hB6 := (hB5.alloc hbs _).grown hgrow (by simp; omega) (fun k hk => (hown.lt k hk).1)
          have HVv := Lib.hid (Vecs.snoc (l := (List.range k).map (nrmZ l)) hkl.symm hown')
          rw [← HXk.out] at HVv
          clear hown' hgrow hown hB5 HI hkl hbs g0 g1
          go_wp2
          go_roundw
          case rel => exact ⟨k + 1, by omega, by go_num, HVv, hB6⟩
          case measure => simp [intOf]; omega
      · obtain rfl : k = l.length := by omega
        have i2 : ¬ ((l.length : Nat) : Int) < (l.length : Int) := by omega
        have hV := HI.out
        rw [← HZ.out] at hV
        have HC4 := Lib.hid (HFo.out _ wr (hV.reads (by rw [HLn.out]; omega)))
        clear hV HFo HI
        go_wp2_with fail
        refine Calls.mono HC4.out ?_
        rintro e5 w5 ⟨v5, rfl, hV5, hb5⟩
        have HV5 := Lib.hid (hV5.lower hB.size)
        have hB6 := belowTo hB hb5
        clear hV5 hb5 HC4
        go_wp2
        go_returns
        exact ⟨_, rfl, HV5.out, hB6⟩
end Go.Proofs.YtflimnpajkadgaaGreatDoor
