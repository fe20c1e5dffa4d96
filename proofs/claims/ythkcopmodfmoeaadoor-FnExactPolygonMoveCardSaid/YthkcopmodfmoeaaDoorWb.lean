/- Polygons: bends, corners: the program. -/
import Derived.Test.YthkcopmodfmoeaaDoorWa
import Derived.Test.YthkcopmodfmoeaaDoorWr
import Derived.Test.YthkcopmodfmoeaaDoorB2
import Derived.Deep.RegionHeld3
import Derived.Deep.DeepCutAuto
namespace Go.Proofs.YthkcopmodfmoeaaDoor
open Go.RowKit

/-- does the way by three vectors bend at the second one -/
def bendV (a b c : V2) : Bool := decide (0 < detZ (b.1 - a.1) (b.2 - a.2) (c.1 - b.1) (c.2 - b.2))
set_option maxHeartbeats 1000000 in
theorem inCorner_any (x y : Int) (w : World) :
    Calls Tryd.prog 65 #[.agg #[.int .i64 (x), .int .i64 (y)]] w fun e w' => e = .returned (.bool (cnrV (x, y))) ∧ Below w.heap.size w w' := by
  go_enter Tryd.func65, Tryd.ntmps65
  go_wp2
  all_goals go_returns
  all_goals refine ⟨?_, by go_grown⟩
  all_goals (refine ret_bool ?_; rw [Bool.eq_iff_iff]; simp [cnrV, cnrN]; try omega)
set_option maxHeartbeats 1000000 in
theorem minusBig_any (x1 y1 x2 y2 : Int) (w : World) (h1 : big 400000 x1 y1) (h2 : big 400000 x2 y2) :
    Calls Tryd.prog 86 #[.agg #[.int .i64 (x1), .int .i64 (y1)], .agg #[.int .i64 (x2), .int .i64 (y2)]] w fun e w' => e = .returned (.agg #[.int .i64 (x1 - x2), .int .i64 (y1 - y2)]) ∧ Below w.heap.size w w' := by
  obtain ⟨⟨_, _⟩, _, _⟩ := h1
  obtain ⟨⟨_, _⟩, _, _⟩ := h2
  go_enter Tryd.func86, Tryd.ntmps86
  go_wp2
  go_returns
  exact ⟨rfl, by go_grown⟩
set_option maxHeartbeats 1000000 in
theorem detBig_any (x1 y1 x2 y2 : Int) (w : World) (h1 : big 800000 x1 y1) (h2 : big 800000 x2 y2) :
    Calls Tryd.prog 87 #[.agg #[.int .i64 (x1), .int .i64 (y1)], .agg #[.int .i64 (x2), .int .i64 (y2)]] w fun e w' => e = .returned (.int .i64 (detZ x1 y1 x2 y2)) ∧ Below w.heap.size w w' := by
  obtain ⟨_, _⟩ := mul_big h1.1 h2.2
  obtain ⟨_, _⟩ := mul_big h1.2 h2.1
  clear h1 h2
  go_enter Tryd.func87, Tryd.ntmps87
  go_wp2
  go_returns
  exact ⟨rfl, by go_grown⟩
set_option linter.unusedSimpArgs false in
set_option maxHeartbeats 8000000 in
theorem bends_any (x1 y1 x2 y2 x3 y3 : Int) (w : World) (h1 : big 400000 x1 y1) (h2 : big 400000 x2 y2) (h3 : big 400000 x3 y3) :
    Calls Tryd.prog 66 #[.agg #[.int .i64 (x1), .int .i64 (y1)], .agg #[.int .i64 (x2), .int .i64 (y2)], .agg #[.int .i64 (x3), .int .i64 (y3)]] w fun e w' => e = .returned (.bool (bendV (x1, y1) (x2, y2) (x3, y3))) ∧ Below w.heap.size w w' := by
  have d1 : big 800000 (x2 - x1) (y2 - y1) := by unfold big at *; omega
  have d2 : big 800000 (x3 - x2) (y3 - y2) := by unfold big at *; omega
  have HD := Lib.hid (fun w' => detBig_any (x2 - x1) (y2 - y1) (x3 - x2) (y3 - y2) w' d1 d2)
  have HZ : Hid (bendV (x1, y1) (x2, y2) (x3, y3) = decide (0 < detZ (x2 - x1) (y2 - y1) (x3 - x2) (y3 - y2))) := rfl
  clear d1 d2
  generalize bendV (x1, y1) (x2, y2) (x3, y3) = K at *
  generalize detZ (x2 - x1) (y2 - y1) (x3 - x2) (y3 - y2) = z at *
  go_enter Tryd.func66, Tryd.ntmps66
  go_upto_region 1 with fail
  obtain ⟨W0, hW⟩ : ∃ W9, W9 = ((w.alloc (.cells #[.int .i64 x1, .int .i64 y1] 38)).alloc (.cells #[.int .i64 x2, .int .i64 y2] 38)).alloc (.cells #[.int .i64 x3, .int .i64 y3] 38) := ⟨_, rfl⟩; have c0 : W0.cell? ⟨w.heap.size, 0, none⟩ = some (.int .i64 (x1)) := (by rw [hW]; first | (simp; done) | (rw [World.cell?_alloc_lt _ _ ⟨_, _, none⟩ (by simp only [World.size_alloc]; omega)]; simp; done) | (rw [World.cell?_alloc_at _ _ _ _ (by simp only [World.size_alloc])]; simp)); have c1 : W0.cell? ⟨w.heap.size, 1, none⟩ = some (.int .i64 (y1)) := (by rw [hW]; first | (simp; done) | (rw [World.cell?_alloc_lt _ _ ⟨_, _, none⟩ (by simp only [World.size_alloc]; omega)]; simp; done) | (rw [World.cell?_alloc_at _ _ _ _ (by simp only [World.size_alloc])]; simp)); have c2 : W0.cell? ⟨w.heap.size + 1, 0, none⟩ = some (.int .i64 (x2)) := (by rw [hW]; first | (simp; done) | (rw [World.cell?_alloc_lt _ _ ⟨_, _, none⟩ (by simp only [World.size_alloc]; omega)]; simp; done) | (rw [World.cell?_alloc_at _ _ _ _ (by simp only [World.size_alloc])]; simp)); have c3 : W0.cell? ⟨w.heap.size + 1, 1, none⟩ = some (.int .i64 (y2)) := (by rw [hW]; first | (simp; done) | (rw [World.cell?_alloc_lt _ _ ⟨_, _, none⟩ (by simp only [World.size_alloc]; omega)]; simp; done) | (rw [World.cell?_alloc_at _ _ _ _ (by simp only [World.size_alloc])]; simp)); have c4 : W0.cell? ⟨w.heap.size + 1 + 1, 0, none⟩ = some (.int .i64 (x3)) := (by rw [hW]; first | (simp; done) | (rw [World.cell?_alloc_lt _ _ ⟨_, _, none⟩ (by simp only [World.size_alloc]; omega)]; simp; done) | (rw [World.cell?_alloc_at _ _ _ _ (by simp only [World.size_alloc])]; simp)); have c5 : W0.cell? ⟨w.heap.size + 1 + 1, 1, none⟩ = some (.int .i64 (y3)) := (by rw [hW]; first | (simp; done) | (rw [World.cell?_alloc_lt _ _ ⟨_, _, none⟩ (by simp only [World.size_alloc]; omega)]; simp; done) | (rw [World.cell?_alloc_at _ _ _ _ (by simp only [World.size_alloc])]; simp)); have z0 : W0.frozen? ⟨w.heap.size, 0, none⟩ = false := (by rw [hW]; first | (simp; done) | (rw [World.frozen?_alloc_old _ _ ⟨_, _, none⟩ (by simp only [World.size_alloc]; omega)]; simp; done) | (rw [World.frozen?_alloc_at _ _ _ _ (by simp only [World.size_alloc])])); have z1 : W0.frozen? ⟨w.heap.size, 1, none⟩ = false := (by rw [hW]; first | (simp; done) | (rw [World.frozen?_alloc_old _ _ ⟨_, _, none⟩ (by simp only [World.size_alloc]; omega)]; simp; done) | (rw [World.frozen?_alloc_at _ _ _ _ (by simp only [World.size_alloc])])); have z2 : W0.frozen? ⟨w.heap.size + 1, 0, none⟩ = false := (by rw [hW]; first | (simp; done) | (rw [World.frozen?_alloc_old _ _ ⟨_, _, none⟩ (by simp only [World.size_alloc]; omega)]; simp; done) | (rw [World.frozen?_alloc_at _ _ _ _ (by simp only [World.size_alloc])])); have z3 : W0.frozen? ⟨w.heap.size + 1, 1, none⟩ = false := (by rw [hW]; first | (simp; done) | (rw [World.frozen?_alloc_old _ _ ⟨_, _, none⟩ (by simp only [World.size_alloc]; omega)]; simp; done) | (rw [World.frozen?_alloc_at _ _ _ _ (by simp only [World.size_alloc])])); have z4 : W0.frozen? ⟨w.heap.size + 1 + 1, 0, none⟩ = false := (by rw [hW]; first | (simp; done) | (rw [World.frozen?_alloc_old _ _ ⟨_, _, none⟩ (by simp only [World.size_alloc]; omega)]; simp; done) | (rw [World.frozen?_alloc_at _ _ _ _ (by simp only [World.size_alloc])])); have z5 : W0.frozen? ⟨w.heap.size + 1 + 1, 1, none⟩ = false := (by rw [hW]; first | (simp; done) | (rw [World.frozen?_alloc_old _ _ ⟨_, _, none⟩ (by simp only [World.size_alloc]; omega)]; simp; done) | (rw [World.frozen?_alloc_at _ _ _ _ (by simp only [World.size_alloc])])); have hB0 : Below w.heap.size w W0 := (by rw [hW]; go_grown); have hs0 : w.heap.size < W0.heap.size := (by rw [hW]; simp only [World.size_alloc]; omega); have hs1 : w.heap.size + 1 < W0.heap.size := (by rw [hW]; simp only [World.size_alloc]; omega); have hs2 : w.heap.size + 1 + 1 < W0.heap.size := (by rw [hW]; simp only [World.size_alloc]; omega); rw [← hW]; clear hW
  go_region_held3 (fun w' => w'.cell? ⟨w.heap.size, 0, none⟩ = some (.int .i64 (x1)) ∧ w'.cell? ⟨w.heap.size, 1, none⟩ = some (.int .i64 (y1)) ∧ w'.cell? ⟨w.heap.size + 1, 0, none⟩ = some (.int .i64 (x2)) ∧ w'.cell? ⟨w.heap.size + 1, 1, none⟩ = some (.int .i64 (y2)) ∧ w'.cell? ⟨w.heap.size + 1 + 1, 0, none⟩ = some (.int .i64 (x3)) ∧ w'.cell? ⟨w.heap.size + 1 + 1, 1, none⟩ = some (.int .i64 (y3)) ∧ Below W0.heap.size W0 w') ((refine (fun hS => ⟨(hS.cell (p := ⟨w.heap.size, 0, none⟩) hs0).trans c0, (hS.cell (p := ⟨w.heap.size, 1, none⟩) hs0).trans c1, (hS.cell (p := ⟨w.heap.size + 1, 0, none⟩) hs1).trans c2, (hS.cell (p := ⟨w.heap.size + 1, 1, none⟩) hs1).trans c3, (hS.cell (p := ⟨w.heap.size + 1 + 1, 0, none⟩) hs2).trans c4, (hS.cell (p := ⟨w.heap.size + 1 + 1, 1, none⟩) hs2).trans c5, hS⟩) (?_ : Below W0.heap.size W0 _); first | (go_grown; done))) (first | (go_at_call 86; go_call (minusBig_any _ _ _ _ _ (by assumption) (by assumption)) as e w1 ⟨rfl, hb0⟩; have hT : Below W0.heap.size W0 w1 := belowTo (by go_split_ands; assumption) hb0; have hTs := hT.size; (first | have hb1 := belowTo (by assumption) hb0 | have hb1 := hb0); obtain ⟨hc1, hf1⟩ := bcell hb1; have hz1 := bsize hb1; have hbs := hb0.size; (try simp only [World.size_alloc, World.size_drew, Nat.add_one_le_iff] at hbs); (try have t1 : W0.heap.size < w1.heap.size := (by omega)); (try have t2 : ¬ W0.heap.size = w1.heap.size := (by omega)); (try have t3 : ¬ w1.heap.size = W0.heap.size := (by omega))) | (go_at_call 87; go_call (HD.out _) as e w1 ⟨rfl, hb0⟩; have hT : Below W0.heap.size W0 w1 := belowTo (by go_split_ands; assumption) hb0; have hTs := hT.size; (first | have hb1 := belowTo (by assumption) hb0 | have hb1 := hb0); obtain ⟨hc1, hf1⟩ := bcell hb1; have hz1 := bsize hb1; have hbs := hb0.size; (try simp only [World.size_alloc, World.size_drew, Nat.add_one_le_iff] at hbs); (try have t1 : W0.heap.size < w1.heap.size := (by omega)); (try have t2 : ¬ W0.heap.size = w1.heap.size := (by omega)); (try have t3 : ¬ w1.heap.size = W0.heap.size := (by omega))))
  go_wp2
  go_returns
  exact ⟨by rw [HZ.out]; rfl, belowTo hB0.drew hb1⟩
theorem mod_is (i n : Nat) : Int.tmod (i : Int) (n : Int) = ((i % n : Nat) : Int) := Int.ofNat_tmod i n
set_option maxHeartbeats 4000000 in
theorem at_any' (v : Value) (l : List V2) (i : Nat) (w : World) (h : ReadsVecs w v l) (h0 : 0 < l.length) :
    Calls Tryd.prog 67 #[v, .int .i64 (i : Int)] w fun e w' => e = .returned (.agg #[.int .i64 ((cyc l i).1), .int .i64 ((cyc l i).2)]) ∧ Below w.heap.size w w' := by
  obtain ⟨bv, ov, vc, rfl, _, _, hbv, hvs⟩ := h.open h0
  have hq : i % l.length < l.length := Nat.mod_lt _ h0
  obtain ⟨d0, d1⟩ := hvs (w.alloc (.cells #[.int .i64 0, .int .i64 0] 38)) (by go_grown) _ hq
  rw [cyc_mod] at d0 d1
  have t2 := mod_is i l.length
  have j3 : (0 : Int) ≤ ((i % l.length : Nat) : Int) := by omega
  have j4 : ((i % l.length : Nat) : Int) < (l.length : Int) := by omega
  have j5 : ¬ (l.length : Int) = 0 := by omega
  have j6 : ((l.length : Int) == 0) = false := by simpa using j5
  have j7 : ¬ l.length = 0 := by omega
  clear hvs h
  generalize cyc l i = V at *
  generalize i % l.length = q at *
  generalize l.length = n at *
  obtain ⟨x, y⟩ := V
  dsimp only at d0 d1 ⊢
  go_enter Tryd.func67, Tryd.ntmps67
  go_wp2
  go_returns
  exact ⟨rfl, by go_grown⟩
set_option maxRecDepth 100000 in
set_option maxHeartbeats 8000000 in
theorem ways_any (v : Value) (l : List V2) (w : World) (h : ReadsVecs w v l) (h0 : 0 < l.length) (hm : l.length ≤ 1000) (hk : ∀ i, big 200000 (cyc l i).1 (cyc l i).2) :
    Calls Tryd.prog 69 #[v] w (GivesVecs w (waysL l)) := by
  obtain ⟨i0, hi, hz0, hz1, hz2⟩ := info_parts infoVec
  have HAt := Lib.hid (fun i w' (hb : Below w.heap.size w w') => at_any' v l i w' (h.below hb) h0)
  obtain ⟨bv, ov, vc, rfl, _, _, hbv, hvs⟩ := h.open h0
  have HVS := Lib.hid hvs
  have HK := Lib.hid hk
  have HX : Hid (∀ k, (List.range (k + 1)).map (wayZ l) = (List.range k).map (wayZ l) ++ [wayZ l k]) := fun k => by simp [List.range_succ]
  have HW : Hid (∀ k, wayZ l k = ((cyc l (k + 1)).1 - (cyc l k).1, (cyc l (k + 1)).2 - (cyc l k).2)) := fun _ => rfl
  have HZ : Hid (waysL l = (List.range l.length).map (wayZ l)) := rfl
  clear h hvs hk
  go_enter Tryd.func69, Tryd.ntmps69
  go_wp2
  go_loopw [3, 8] (fun s3 s8 wr => ∃ k : Nat, k ≤ l.length ∧ s8 = .int .i64 k ∧ Hid (Vecs wr w.heap.size s3 ((List.range k).map (wayZ l))) ∧ Below w.heap.size w wr) (fun _ s8 _ => l.length - (intOf s8).toNat)
  case atStart => exact ⟨0, Nat.zero_le _, rfl, Vecs.nil _ _, Below.refl _ _⟩
  case round =>
    obtain ⟨k, hk, rfl, HI, hB⟩ := hrel
    have i1 : (0 : Int) ≤ (k : Int) := by omega
    by_cases hlt : k < l.length
    · have i2 : (k : Int) < (l.length : Int) := by omega
      obtain ⟨c0, c1⟩ := HVS.out wr hB k hlt
      have HAk := Lib.hid (HAt.out (k + 1))
      have k0 := HK.out k
      have k1 := HK.out (k + 1)
      have HXk := Lib.hid (HX.out k)
      rw [HW.out k] at HXk
      have hkl : ((List.range k).map (wayZ l)).length = k := by simp
      have q0 : IntKind.i64.wrap ((k : Int) + 1) = ((k + 1 : Nat) : Int) := by rw [IntKind.wrap_i64]; omega
      generalize cyc l k = V at *
      generalize cyc l (k + 1) = U at *
      obtain ⟨x1, y1⟩ := V
      obtain ⟨x2, y2⟩ := U
      dsimp only at c0 c1 k0 k1 HAk HXk
      have HM := Lib.hid (fun w' => minusBig_any x2 y2 x1 y1 w' (by unfold big at *; omega) (by unfold big at *; omega))
      have hs := hB.size
      clear HK HX HW HVS HAt k0 k1
      go_wp2_with fail
      have hA2 : Below wr.heap.size wr (wr.alloc (.cells #[.int .i64 x1, .int .i64 y1] 38)) := by go_grown
      have e0 : (wr.alloc (.cells #[.int .i64 x1, .int .i64 y1] 38)).cell? ⟨wr.heap.size, 0, none⟩ = some (.int .i64 x1) := by simp
      have e1 : (wr.alloc (.cells #[.int .i64 x1, .int .i64 y1] 38)).cell? ⟨wr.heap.size, 1, none⟩ = some (.int .i64 y1) := by simp
      have hB2 := hB.trans (hA2.mono hs)
      replace HI := Lib.hid (HI.out.below hA2)
      obtain ⟨B3, hB3⟩ : ∃ B3, B3 = wr.heap.size := ⟨_, rfl⟩
      rw [← hB3] at e0 e1 ⊢
      generalize (wr.alloc (.cells #[.int .i64 x1, .int .i64 y1] 38)) = W3 at *
      clear hA2 hB3 c0 c1 hs hB
      have hs3 := hB2.size
      have t0 := cell_lt e0
      refine wp_region_any (by kernel_rfl) ?_
      try (change wpAny _ _ _ _ _ _ _ (World.drew _))
      refine wpAny_take (i := 0) (v := ?_) rfl (by kernel_rfl) (by kernel_rfl) (by kernel_rfl) (fun _ _ _ h => h) (Or.inl ⟨by rfl, ?_⟩) ?_
      rotate_left
      focus (intro w0; go_simp; try with_reducible rfl)
      refine wpAny_take (i := 1) (v := ?_) rfl (by kernel_rfl) (by kernel_rfl) (by kernel_rfl) (fun _ _ _ h => h) (Or.inl ⟨by rfl, ?_⟩) ?_
      rotate_left
      focus (intro w0; go_simp; try with_reducible rfl)
      refine wpAny_take (i := 2) (v := ?_) rfl (by kernel_rfl) (by kernel_rfl) (by kernel_rfl) (fun _ _ _ h => h) (Or.inl ⟨by rfl, ?_⟩) ?_
      rotate_left
      focus (intro w0; go_simp; try with_reducible rfl)
      refine wpAny_take (i := 3) (v := ?_) rfl (by kernel_rfl) (by kernel_rfl) (by kernel_rfl) (fun _ _ _ h => h) (Or.inl ⟨by rfl, ?_⟩) ?_
      rotate_left
      focus (intro w0; go_simp; try with_reducible rfl)
      refine wpAny_ready (rs := [4, 5]) (by kernel_rfl) (by simp) (AllReady.cons rfl (fun K hK => ?_) (AllReady.cons rfl (fun K hK => ?_) (AllReady.nil)))
      focus
        go_simp
        (refine Calls.mono (HAk.out _ (hB2.trans (by go_grown))) ?_; rintro e w1 ⟨rfl, hb1⟩; replace hb1 := undrew hb1; replace e0 := (hb1.cell (p := ⟨B3, 0, none⟩) t0).trans e0; replace e1 := (hb1.cell (p := ⟨B3, 1, none⟩) t0).trans e1; replace t0 := cell_lt e0)
        refine hK _ _ ?_
        clear hK K
        refine wpAny_ready (rs := [5]) (by kernel_rfl) (by simp) (AllReady.cons rfl (fun K hK => ?_) (AllReady.nil))
        go_simp
        refine hK _ _ ?_
        clear hK K
        refine wpAny_ready (rs := [6]) (by kernel_rfl) (by simp) (AllReady.cons rfl (fun K hK => ?_) (AllReady.nil))
        go_simp
        (refine Calls.mono (HM.out _) ?_; rintro e w2 ⟨rfl, hb2⟩)
        refine hK _ _ ?_
        clear hK K
        refine wpAny_ready (rs := [7]) (by kernel_rfl) (by simp) (AllReady.cons rfl (fun K hK => ?_) (AllReady.nil))
        go_simp
        refine hK _ _ ?_
        clear hK K
        refine wpAny_seq 8 rfl (by kernel_rfl) ?_
        simp only [List.drop_succ_cons, List.drop_zero]
      rotate_left 1
      focus
        go_simp
        refine hK _ _ ?_
        clear hK K
        refine wpAny_ready (rs := [4]) (by kernel_rfl) (by simp) (AllReady.cons rfl (fun K hK => ?_) (AllReady.nil))
        go_simp
        (refine Calls.mono (HAk.out _ (hB2.trans (by go_grown))) ?_; rintro e w1 ⟨rfl, hb1⟩; replace hb1 := undrew hb1; replace e0 := (hb1.cell (p := ⟨B3, 0, none⟩) t0).trans e0; replace e1 := (hb1.cell (p := ⟨B3, 1, none⟩) t0).trans e1; replace t0 := cell_lt e0)
        refine hK _ _ ?_
        clear hK K
        refine wpAny_ready (rs := [6]) (by kernel_rfl) (by simp) (AllReady.cons rfl (fun K hK => ?_) (AllReady.nil))
        go_simp
        (refine Calls.mono (HM.out _) ?_; rintro e w2 ⟨rfl, hb2⟩)
        refine hK _ _ ?_
        clear hK K
        refine wpAny_ready (rs := [7]) (by kernel_rfl) (by simp) (AllReady.cons rfl (fun K hK => ?_) (AllReady.nil))
        go_simp
        refine hK _ _ ?_
        clear hK K
        refine wpAny_seq 8 rfl (by kernel_rfl) ?_
        simp only [List.drop_succ_cons, List.drop_zero]
      all_goals
        have hb3 := belowTo hb1 hb2
        have hB4 := hB2.trans (hb3.mono hs3)
        have hown := HI.out.below hb3
        unfold Vecs VRow at hown
        rw [hkl] at hown
        have hbs := hB4.size
        clear hb1 hb2 hb3 e0 e1 t0
        go_wp2_with (at_builtin; refine wpList_append_own_at _ rfl _ _ 24 rfl w.heap.size 38 i0 (.agg #[.int .i64 (0), .int .i64 (0)]) 2 16 Tryd.underlying24 hi hz0 hz1 hz2 rfl (by decide) _ _ _ rfl (hown.alloc _) ⟨_, 0, none⟩ 1 1 [.int .i64 (x2 - x1), .int .i64 (y2 - y1)] rfl rfl ?c1 ?c2 ?c3 ?c4 ?c5 ?_)
        case c1 =>
          intro j u hj
          match j, hj with
          | 0, hj => simp at hj; subst hj; simp [Addr.add]
          | 1, hj => simp at hj; subst hj; simp [Addr.add]
        case c2 => intro u hu; simp at hu; rcases hu with rfl | rfl <;> rfl
        case c3 => unfold maxLen; omega
        case c4 => omega
        case c5 => simp; omega
        intro v' w4 hown' hgrow _ _
        have hB5 := (hB4.alloc hbs _).grown hgrow (by simp; omega) (fun k hk => (hown.lt k hk).1)
        have HVv := Lib.hid (Vecs.snoc (l := (List.range k).map (wayZ l)) hkl.symm hown')
        rw [← HXk.out] at HVv
        clear hown' hgrow hown hB4 HI hkl hbs
        go_wp2
        go_roundw
        case rel => exact ⟨k + 1, by omega, by go_num, HVv, hB5⟩
        case measure => simp [intOf]; omega
    · obtain rfl : k = l.length := by omega
      have i2 : ¬ ((l.length : Nat) : Int) < (l.length : Int) := by omega
      have HI2 := Lib.hid HI.out
      rw [← HZ.out] at HI2
      clear HI
      go_wp2
      go_returns
      exact ⟨_, rfl, HI2.out, hB⟩
theorem inCornerV (V : V2) (w : World) :
    Calls Tryd.prog 65 #[.agg #[.int .i64 (V.1), .int .i64 (V.2)]] w fun e w' => e = .returned (.bool (cnrV V)) ∧ Below w.heap.size w w' := inCorner_any V.1 V.2 w
theorem bendsV (U V T : V2) (w : World) (h1 : big 400000 U.1 U.2) (h2 : big 400000 V.1 V.2) (h3 : big 400000 T.1 T.2) :
    Calls Tryd.prog 66 #[.agg #[.int .i64 (U.1), .int .i64 (U.2)], .agg #[.int .i64 (V.1), .int .i64 (V.2)], .agg #[.int .i64 (T.1), .int .i64 (T.2)]] w fun e w' => e = .returned (.bool (bendV U V T)) ∧ Below w.heap.size w w' := bends_any _ _ _ _ _ _ w h1 h2 h3
end Go.Proofs.YthkcopmodfmoeaaDoor
