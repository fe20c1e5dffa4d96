/- Divisors made plain, equivalent ones: the model's side. -/
import Derived.Test.YtcieihbknfeddabDoorBf
import Derived.Test.YtcieihbknfeddabDoorBe
namespace Go.Proofs.YtcieihbknfeddabDoor
open Go.RowKit

set_option maxHeartbeats 4000000 in
theorem l4Vertex_any (a b c d x y : Int) (w : World) (h1 : vecB a b = true) (h2 : vecB c d = true) (hx : -200 ≤ x ∧ x ≤ 200) (hy : -200 ≤ y ∧ y ≤ 200) :
    Calls Tryd.prog 108 #[.agg #[.int .i64 (a), .int .i64 (b), .int .i64 (c), .int .i64 (d)], .int .i64 x, .int .i64 y] w fun e w' => e = .returned (.agg #[.int .i64 (x * d - y * b), .int .i64 (y * a - x * c)]) ∧ Below w.heap.size w w' := by
  obtain ⟨a1, b1⟩ := szs h1
  obtain ⟨c1, d1⟩ := szs h2
  have m1 := mul_le hx d1
  have m2 := mul_le hy b1
  have m3 := mul_le hy a1
  have m4 := mul_le hx c1
  have q1 : IntKind.i64.wrap (x * d) = x * d := by rw [IntKind.wrap_i64]; omega
  have q2 : IntKind.i64.wrap (y * b) = y * b := by rw [IntKind.wrap_i64]; omega
  have q3 : IntKind.i64.wrap (y * a) = y * a := by rw [IntKind.wrap_i64]; omega
  have q4 : IntKind.i64.wrap (x * c) = x * c := by rw [IntKind.wrap_i64]; omega
  have q5 : IntKind.i64.wrap (x * d - y * b) = x * d - y * b := by rw [IntKind.wrap_i64]; omega
  have q6 : IntKind.i64.wrap (y * a - x * c) = y * a - x * c := by rw [IntKind.wrap_i64]; omega
  clear h1 h2
  go_enter Tryd.func108, Tryd.ntmps108
  go_wp2
  refine bodyPost_ret (by simp [results, Tryd.results108, go_sem, *]; try rfl) rfl ?_
  exact ⟨rfl, by go_grown⟩
set_option maxRecDepth 100000 in
set_option maxHeartbeats 32000000 in
theorem l4Plain_any (v u : Value) (l : List V2) (d : List Int) (w : World) (hv : ReadsVecs w v l) (hu : ReadsInts w u d) (hl : d.length = l.length) (h2 : 2 ≤ l.length) (hm : l.length ≤ 20) (ha : allVec l) (hb : bnd 200 d) :
    Calls Tryd.prog 79 #[v, u] w (GivesInts w (plainL l d)) := by
  have HC := Lib.hid (fun w' (hb : Below w.heap.size w w') => l3Cone_any v l 0 w' (hv.below hb) (by omega))
  have HV := Lib.hid (fun w' => l4Vertex_any (cyc l 0).1 (cyc l 0).2 (cyc l 1).1 (cyc l 1).2 (gz d 0) (gz d 1) w' (ha 0) (ha 1) (hb 0) (hb 1))
  have HZ : Hid ((gz d 0 * (cyc l 1).2 - gz d 1 * (cyc l 0).2, gz d 1 * (cyc l 0).1 - gz d 0 * (cyc l 1).1) = vecZ l d) := rfl
  have hvb := vec_bnd ha hb
  have HO := Lib.hid (fun w' (hb : Below w.heap.size w w') => l4Of_any v l (vecZ l d).1 (vecZ l d).2 w' (hv.below hb) (by omega) (by omega) ha hvb)
  have HS := Lib.hid (fun u' w' (hb' : Below w.heap.size w w') (hI : ReadsInts w' u' (trivL l (vecZ l d))) => l4Sum_any u u' d (trivL l (vecZ l d)) (-1) w' (hu.below hb') hI (by rw [trivL_len]; exact hl.symm) (by omega) (bnd_big hb (by omega)) (bnd_mono (triv_bnd ha hvb) (by omega)) (by omega))
  have HT : Hid ((trivL l (vecZ l d)).length ≤ 1000) := by show _ ≤ _; rw [trivL_len]; omega
  have HP : Hid (plainL l d = sumL d (-1) (trivL l (vecZ l d))) := rfl
  obtain ⟨bb, off, c, rfl, _, hbb, hcs⟩ := hu.open (by omega)
  have e0 := hcs w (Below.refl _ _) 0 (by omega)
  have e1 := hcs w (Below.refl _ _) 1 (by omega)
  rw [Nat.add_zero] at e0
  have HCs := Lib.hid hcs
  have i0 : (0 : Int) < (d.length : Int) := by omega
  have i1 : (1 : Int) < (d.length : Int) := by omega
  clear hv hu ha hb hvb hcs
  rw [Nat.zero_add] at HC
  have HVq : Hid (vecZ l d = ((vecZ l d).1, (vecZ l d).2)) := rfl
  generalize hz1 : (vecZ l d).1 = zx at *
  generalize hz2 : (vecZ l d).2 = zy at *
  have hq1 : gz d 0 * (cyc l 1).2 - gz d 1 * (cyc l 0).2 = zx := hz1
  have hq2 : gz d 1 * (cyc l 0).1 - gz d 0 * (cyc l 1).1 = zy := hz2
  rw [hq1, hq2] at HV
  rw [HVq.out] at HS HT HP
  clear hz1 hz2 hq1 hq2 HZ HVq
  generalize trivL l (zx, zy) = T at *
  rw [HP.out]
  obtain ⟨x, hx⟩ : ∃ x, x = gz d 0 := ⟨_, rfl⟩
  obtain ⟨y, hy⟩ : ∃ y, y = gz d 1 := ⟨_, rfl⟩
  have HX : Hid (gz d 0 = x) := hx.symm
  have HY : Hid (gz d 1 = y) := hy.symm
  rw [← hx] at e0 HV
  rw [← hy] at e1 HV
  clear hx hy
  generalize sumL d (-1) T = R at *
  have HN2 : Hid (2 ≤ d.length) := by show 2 ≤ d.length; omega
  obtain ⟨n, hn⟩ : ∃ n, n = d.length := ⟨_, rfl⟩
  have HN : Hid (n = d.length ∧ 2 ≤ d.length) := ⟨hn, HN2.out⟩
  rw [← hn] at i0 i1 ⊢
  rw [← hn] at HS
  have n0 : 0 < n := by omega
  have n1 : 1 < n := by omega
  have n2 : ¬ n = 0 := by omega
  clear hn hl h2 hm HN2
  generalize (cyc l 0) = p0 at *
  generalize (cyc l 1) = p1 at *
  obtain ⟨ax, ay⟩ := p0
  obtain ⟨bx, by'⟩ := p1
  dsimp only at HC HV
  clear HP
  go_enter Tryd.func79, Tryd.ntmps79
  go_wp2
  refine wp_region_any (by kernel_rfl) ?_
  try (change wpAny _ _ _ _ _ _ _ (World.drew _))
  refine wpAny_take (i := 0) (v := ?_) rfl (by kernel_rfl) (by kernel_rfl) (by kernel_rfl) (fun _ _ _ h => h) (Or.inl ⟨by rfl, ?_⟩) ?_
  rotate_left
  focus (intro w0; go_simp; try with_reducible rfl)
  refine wpAny_take (i := 2) (v := ?_) rfl (by kernel_rfl) (by kernel_rfl) (by kernel_rfl) (fun _ _ _ h => h) (Or.inl ⟨by rfl, ?_⟩) ?_
  rotate_left
  focus (intro w0; go_simp; try with_reducible rfl)
  refine wpAny_take (i := 3) (v := ?_) rfl (by kernel_rfl) (by kernel_rfl) (by kernel_rfl) (fun _ _ _ h => h) (Or.inl ⟨by rfl, ?_⟩) ?_
  rotate_left
  focus (intro w0; go_simp; try with_reducible rfl)
  refine wpAny_take (i := 5) (v := ?_) rfl (by kernel_rfl) (by kernel_rfl) (by kernel_rfl) (fun _ _ _ h => h) (Or.inl ⟨by rfl, ?_⟩) ?_
  rotate_left
  focus (intro w0; go_simp; try with_reducible rfl)
  refine wpAny_take (i := 6) (v := ?_) rfl (by kernel_rfl) (by kernel_rfl) (by kernel_rfl) (fun _ _ _ h => h) (Or.inl ⟨by rfl, ?_⟩) ?_
  rotate_left
  focus (intro w0; go_simp; try with_reducible rfl)
  refine wpAny_ready (rs := [1, 4, 7, 9]) (by kernel_rfl) (by simp) (AllReady.cons rfl (fun K hK => ?_) (AllReady.cons rfl (fun K hK => ?_) (AllReady.cons rfl (fun K hK => ?_) (AllReady.cons rfl (fun K hK => ?_) (AllReady.nil)))))
  focus
    go_simp
    (refine Calls.mono (HC.out _ (by go_grown)) ?_; rintro e w2 ⟨rfl, hbX⟩; have hG2 : Below w.heap.size w w2 := belowTo (by go_grown) hbX; have hg2 := hG2.size; have f0 := HCs.out w2 hG2 0 (by have := HN.out; omega); have f1 := HCs.out w2 hG2 1 (by have := HN.out; omega); rw [HX.out, Nat.add_zero] at f0; rw [HY.out] at f1; have hbl2 := Nat.lt_of_lt_of_le hbb hG2.size; (try have y0 : w2.cell? ⟨w.heap.size, 0, none⟩ = some (.int .i64 0) := (hbX.cell (p := ⟨w.heap.size, 0, none⟩) (by first | (go_size; done) | (simp; done) | (simp; omega))).trans (by first | assumption | (go_cell; done) | (go_simp; done) | (simp; done))); (try have yf0 : w2.frozen? ⟨w.heap.size, 0, none⟩ = false := (hbX.frozen (p := ⟨w.heap.size, 0, none⟩) (by first | (go_size; done) | (simp; done) | (simp; omega))).trans (by first | assumption | (go_cell; done) | (go_simp; done) | (simp; done))); (try have y1 : w2.cell? ⟨w.heap.size, 1, none⟩ = some (.int .i64 0) := (hbX.cell (p := ⟨w.heap.size, 1, none⟩) (by first | (go_size; done) | (simp; done) | (simp; omega))).trans (by first | assumption | (go_cell; done) | (go_simp; done) | (simp; done))); (try have yf1 : w2.frozen? ⟨w.heap.size, 1, none⟩ = false := (hbX.frozen (p := ⟨w.heap.size, 1, none⟩) (by first | (go_size; done) | (simp; done) | (simp; omega))).trans (by first | assumption | (go_cell; done) | (go_simp; done) | (simp; done))); (try have ys := cell_lt y0); clear hbX)
    refine hK _ _ ?_
    clear hK K
    refine wpAny_ready (rs := [4, 7, 9]) (by kernel_rfl) (by simp) (AllReady.cons rfl (fun K hK => ?_) (AllReady.cons rfl (fun K hK => ?_) (AllReady.cons rfl (fun K hK => ?_) (AllReady.nil))))
    focus
      go_simp
      refine hK _ _ ?_
      clear hK K
      refine wpAny_ready (rs := [7, 9]) (by kernel_rfl) (by simp) (AllReady.cons rfl (fun K hK => ?_) (AllReady.cons rfl (fun K hK => ?_) (AllReady.nil)))
      focus
        go_simp
        refine hK _ _ ?_
        clear hK K
        refine wpAny_ready (rs := [8, 9]) (by kernel_rfl) (by simp) (AllReady.cons rfl (fun K hK => ?_) (AllReady.cons rfl (fun K hK => ?_) (AllReady.nil)))
        focus
          go_simp
          (refine Calls.mono (HV.out _) ?_; rintro e w3 ⟨rfl, hbY⟩; have hG3 : Below w.heap.size w w3 := belowTo (by go_grown) hbY; (try have z0 : w3.cell? ⟨w.heap.size, 0, none⟩ = some (.int .i64 0) := (hbY.cell (p := ⟨w.heap.size, 0, none⟩) (by first | (go_size; done) | (simp; done) | (simp; omega))).trans (by first | assumption | (go_cell; done) | (go_simp; done) | (simp; done))); (try have zf0 : w3.frozen? ⟨w.heap.size, 0, none⟩ = false := (hbY.frozen (p := ⟨w.heap.size, 0, none⟩) (by first | (go_size; done) | (simp; done) | (simp; omega))).trans (by first | assumption | (go_cell; done) | (go_simp; done) | (simp; done))); (try have z1 : w3.cell? ⟨w.heap.size, 1, none⟩ = some (.int .i64 0) := (hbY.cell (p := ⟨w.heap.size, 1, none⟩) (by first | (go_size; done) | (simp; done) | (simp; omega))).trans (by first | assumption | (go_cell; done) | (go_simp; done) | (simp; done))); (try have zf1 : w3.frozen? ⟨w.heap.size, 1, none⟩ = false := (hbY.frozen (p := ⟨w.heap.size, 1, none⟩) (by first | (go_size; done) | (simp; done) | (simp; omega))).trans (by first | assumption | (go_cell; done) | (go_simp; done) | (simp; done))); (try have zs := cell_lt z0); (try have u0 : w3.cell? ⟨w2.heap.size, 0, none⟩ = some (.int .i64 0) := (hbY.cell (p := ⟨w2.heap.size, 0, none⟩) (by first | (go_size; done) | (simp; done) | (simp; omega))).trans (by first | assumption | (go_cell; done) | (go_simp; done) | (simp; done))); (try have uf0 : w3.frozen? ⟨w2.heap.size, 0, none⟩ = false := (hbY.frozen (p := ⟨w2.heap.size, 0, none⟩) (by first | (go_size; done) | (simp; done) | (simp; omega))).trans (by first | assumption | (go_cell; done) | (go_simp; done) | (simp; done))); (try have u1 : w3.cell? ⟨w2.heap.size, 1, none⟩ = some (.int .i64 0) := (hbY.cell (p := ⟨w2.heap.size, 1, none⟩) (by first | (go_size; done) | (simp; done) | (simp; omega))).trans (by first | assumption | (go_cell; done) | (go_simp; done) | (simp; done))); (try have uf1 : w3.frozen? ⟨w2.heap.size, 1, none⟩ = false := (hbY.frozen (p := ⟨w2.heap.size, 1, none⟩) (by first | (go_size; done) | (simp; done) | (simp; omega))).trans (by first | assumption | (go_cell; done) | (go_simp; done) | (simp; done))); (try have us := cell_lt u0); clear hbY)
          refine hK _ _ ?_
          clear hK K
          refine wpAny_ready (rs := [9]) (by kernel_rfl) (by simp) (AllReady.cons rfl (fun K hK => ?_) (AllReady.nil))
          go_simp
          refine hK _ _ ?_
          clear hK K
          refine wpAny_seq 10 rfl (by kernel_rfl) ?_
          simp only [List.drop_succ_cons, List.drop_zero]
        rotate_left 1
        focus
          go_simp
          refine hK _ _ ?_
          clear hK K
          refine wpAny_ready (rs := [8]) (by kernel_rfl) (by simp) (AllReady.cons rfl (fun K hK => ?_) (AllReady.nil))
          go_simp
          (refine Calls.mono (HV.out _) ?_; rintro e w3 ⟨rfl, hbY⟩; have hG3 : Below w.heap.size w w3 := belowTo (by go_grown) hbY; (try have z0 : w3.cell? ⟨w.heap.size, 0, none⟩ = some (.int .i64 0) := (hbY.cell (p := ⟨w.heap.size, 0, none⟩) (by first | (go_size; done) | (simp; done) | (simp; omega))).trans (by first | assumption | (go_cell; done) | (go_simp; done) | (simp; done))); (try have zf0 : w3.frozen? ⟨w.heap.size, 0, none⟩ = false := (hbY.frozen (p := ⟨w.heap.size, 0, none⟩) (by first | (go_size; done) | (simp; done) | (simp; omega))).trans (by first | assumption | (go_cell; done) | (go_simp; done) | (simp; done))); (try have z1 : w3.cell? ⟨w.heap.size, 1, none⟩ = some (.int .i64 0) := (hbY.cell (p := ⟨w.heap.size, 1, none⟩) (by first | (go_size; done) | (simp; done) | (simp; omega))).trans (by first | assumption | (go_cell; done) | (go_simp; done) | (simp; done))); (try have zf1 : w3.frozen? ⟨w.heap.size, 1, none⟩ = false := (hbY.frozen (p := ⟨w.heap.size, 1, none⟩) (by first | (go_size; done) | (simp; done) | (simp; omega))).trans (by first | assumption | (go_cell; done) | (go_simp; done) | (simp; done))); (try have zs := cell_lt z0); (try have u0 : w3.cell? ⟨w2.heap.size, 0, none⟩ = some (.int .i64 0) := (hbY.cell (p := ⟨w2.heap.size, 0, none⟩) (by first | (go_size; done) | (simp; done) | (simp; omega))).trans (by first | assumption | (go_cell; done) | (go_simp; done) | (simp; done))); (try have uf0 : w3.frozen? ⟨w2.heap.size, 0, none⟩ = false := (hbY.frozen (p := ⟨w2.heap.size, 0, none⟩) (by first | (go_size; done) | (simp; done) | (simp; omega))).trans (by first | assumption | (go_cell; done) | (go_simp; done) | (simp; done))); (try have u1 : w3.cell? ⟨w2.heap.size, 1, none⟩ = some (.int .i64 0) := (hbY.cell (p := ⟨w2.heap.size, 1, none⟩) (by first | (go_size; done) | (simp; done) | (simp; omega))).trans (by first | assumption | (go_cell; done) | (go_simp; done) | (simp; done))); (try have uf1 : w3.frozen? ⟨w2.heap.size, 1, none⟩ = false := (hbY.frozen (p := ⟨w2.heap.size, 1, none⟩) (by first | (go_size; done) | (simp; done) | (simp; omega))).trans (by first | assumption | (go_cell; done) | (go_simp; done) | (simp; done))); (try have us := cell_lt u0); clear hbY)
          refine hK _ _ ?_
          clear hK K
          refine wpAny_seq 10 rfl (by kernel_rfl) ?_
          simp only [List.drop_succ_cons, List.drop_zero]
      rotate_left 2
      focus
        go_simp
        refine hK _ _ ?_
        clear hK K
        refine wpAny_ready (rs := [7]) (by kernel_rfl) (by simp) (AllReady.cons rfl (fun K hK => ?_) (AllReady.nil))
        go_simp
        refine hK _ _ ?_
        clear hK K
        refine wpAny_ready (rs := [8]) (by kernel_rfl) (by simp) (AllReady.cons rfl (fun K hK => ?_) (AllReady.nil))
        go_simp
        (refine Calls.mono (HV.out _) ?_; rintro e w3 ⟨rfl, hbY⟩; have hG3 : Below w.heap.size w w3 := belowTo (by go_grown) hbY; (try have z0 : w3.cell? ⟨w.heap.size, 0, none⟩ = some (.int .i64 0) := (hbY.cell (p := ⟨w.heap.size, 0, none⟩) (by first | (go_size; done) | (simp; done) | (simp; omega))).trans (by first | assumption | (go_cell; done) | (go_simp; done) | (simp; done))); (try have zf0 : w3.frozen? ⟨w.heap.size, 0, none⟩ = false := (hbY.frozen (p := ⟨w.heap.size, 0, none⟩) (by first | (go_size; done) | (simp; done) | (simp; omega))).trans (by first | assumption | (go_cell; done) | (go_simp; done) | (simp; done))); (try have z1 : w3.cell? ⟨w.heap.size, 1, none⟩ = some (.int .i64 0) := (hbY.cell (p := ⟨w.heap.size, 1, none⟩) (by first | (go_size; done) | (simp; done) | (simp; omega))).trans (by first | assumption | (go_cell; done) | (go_simp; done) | (simp; done))); (try have zf1 : w3.frozen? ⟨w.heap.size, 1, none⟩ = false := (hbY.frozen (p := ⟨w.heap.size, 1, none⟩) (by first | (go_size; done) | (simp; done) | (simp; omega))).trans (by first | assumption | (go_cell; done) | (go_simp; done) | (simp; done))); (try have zs := cell_lt z0); (try have u0 : w3.cell? ⟨w2.heap.size, 0, none⟩ = some (.int .i64 0) := (hbY.cell (p := ⟨w2.heap.size, 0, none⟩) (by first | (go_size; done) | (simp; done) | (simp; omega))).trans (by first | assumption | (go_cell; done) | (go_simp; done) | (simp; done))); (try have uf0 : w3.frozen? ⟨w2.heap.size, 0, none⟩ = false := (hbY.frozen (p := ⟨w2.heap.size, 0, none⟩) (by first | (go_size; done) | (simp; done) | (simp; omega))).trans (by first | assumption | (go_cell; done) | (go_simp; done) | (simp; done))); (try have u1 : w3.cell? ⟨w2.heap.size, 1, none⟩ = some (.int .i64 0) := (hbY.cell (p := ⟨w2.heap.size, 1, none⟩) (by first | (go_size; done) | (simp; done) | (simp; omega))).trans (by first | assumption | (go_cell; done) | (go_simp; done) | (simp; done))); (try have uf1 : w3.frozen? ⟨w2.heap.size, 1, none⟩ = false := (hbY.frozen (p := ⟨w2.heap.size, 1, none⟩) (by first | (go_size; done) | (simp; done) | (simp; omega))).trans (by first | assumption | (go_cell; done) | (go_simp; done) | (simp; done))); (try have us := cell_lt u0); clear hbY)
        refine hK _ _ ?_
        clear hK K
        refine wpAny_seq 10 rfl (by kernel_rfl) ?_
        simp only [List.drop_succ_cons, List.drop_zero]
    rotate_left 3
    focus
      go_simp
      refine hK _ _ ?_
      clear hK K
      refine wpAny_ready (rs := [4, 9]) (by kernel_rfl) (by simp) (AllReady.cons rfl (fun K hK => ?_) (AllReady.cons rfl (fun K hK => ?_) (AllReady.nil)))
      focus
        go_simp
        refine hK _ _ ?_
        clear hK K
        refine wpAny_ready (rs := [8, 9]) (by kernel_rfl) (by simp) (AllReady.cons rfl (fun K hK => ?_) (AllReady.cons rfl (fun K hK => ?_) (AllReady.nil)))
        focus
          go_simp
          (refine Calls.mono (HV.out _) ?_; rintro e w3 ⟨rfl, hbY⟩; have hG3 : Below w.heap.size w w3 := belowTo (by go_grown) hbY; (try have z0 : w3.cell? ⟨w.heap.size, 0, none⟩ = some (.int .i64 0) := (hbY.cell (p := ⟨w.heap.size, 0, none⟩) (by first | (go_size; done) | (simp; done) | (simp; omega))).trans (by first | assumption | (go_cell; done) | (go_simp; done) | (simp; done))); (try have zf0 : w3.frozen? ⟨w.heap.size, 0, none⟩ = false := (hbY.frozen (p := ⟨w.heap.size, 0, none⟩) (by first | (go_size; done) | (simp; done) | (simp; omega))).trans (by first | assumption | (go_cell; done) | (go_simp; done) | (simp; done))); (try have z1 : w3.cell? ⟨w.heap.size, 1, none⟩ = some (.int .i64 0) := (hbY.cell (p := ⟨w.heap.size, 1, none⟩) (by first | (go_size; done) | (simp; done) | (simp; omega))).trans (by first | assumption | (go_cell; done) | (go_simp; done) | (simp; done))); (try have zf1 : w3.frozen? ⟨w.heap.size, 1, none⟩ = false := (hbY.frozen (p := ⟨w.heap.size, 1, none⟩) (by first | (go_size; done) | (simp; done) | (simp; omega))).trans (by first | assumption | (go_cell; done) | (go_simp; done) | (simp; done))); (try have zs := cell_lt z0); (try have u0 : w3.cell? ⟨w2.heap.size, 0, none⟩ = some (.int .i64 0) := (hbY.cell (p := ⟨w2.heap.size, 0, none⟩) (by first | (go_size; done) | (simp; done) | (simp; omega))).trans (by first | assumption | (go_cell; done) | (go_simp; done) | (simp; done))); (try have uf0 : w3.frozen? ⟨w2.heap.size, 0, none⟩ = false := (hbY.frozen (p := ⟨w2.heap.size, 0, none⟩) (by first | (go_size; done) | (simp; done) | (simp; omega))).trans (by first | assumption | (go_cell; done) | (go_simp; done) | (simp; done))); (try have u1 : w3.cell? ⟨w2.heap.size, 1, none⟩ = some (.int .i64 0) := (hbY.cell (p := ⟨w2.heap.size, 1, none⟩) (by first | (go_size; done) | (simp; done) | (simp; omega))).trans (by first | assumption | (go_cell; done) | (go_simp; done) | (simp; done))); (try have uf1 : w3.frozen? ⟨w2.heap.size, 1, none⟩ = false := (hbY.frozen (p := ⟨w2.heap.size, 1, none⟩) (by first | (go_size; done) | (simp; done) | (simp; omega))).trans (by first | assumption | (go_cell; done) | (go_simp; done) | (simp; done))); (try have us := cell_lt u0); clear hbY)
          refine hK _ _ ?_
          clear hK K
          refine wpAny_ready (rs := [9]) (by kernel_rfl) (by simp) (AllReady.cons rfl (fun K hK => ?_) (AllReady.nil))
          go_simp
          refine hK _ _ ?_
          clear hK K
          refine wpAny_seq 10 rfl (by kernel_rfl) ?_
          simp only [List.drop_succ_cons, List.drop_zero]
        rotate_left 1
        focus
          go_simp
          refine hK _ _ ?_
          clear hK K
          refine wpAny_ready (rs := [8]) (by kernel_rfl) (by simp) (AllReady.cons rfl (fun K hK => ?_) (AllReady.nil))
          go_simp
          (refine Calls.mono (HV.out _) ?_; rintro e w3 ⟨rfl, hbY⟩; have hG3 : Below w.heap.size w w3 := belowTo (by go_grown) hbY; (try have z0 : w3.cell? ⟨w.heap.size, 0, none⟩ = some (.int .i64 0) := (hbY.cell (p := ⟨w.heap.size, 0, none⟩) (by first | (go_size; done) | (simp; done) | (simp; omega))).trans (by first | assumption | (go_cell; done) | (go_simp; done) | (simp; done))); (try have zf0 : w3.frozen? ⟨w.heap.size, 0, none⟩ = false := (hbY.frozen (p := ⟨w.heap.size, 0, none⟩) (by first | (go_size; done) | (simp; done) | (simp; omega))).trans (by first | assumption | (go_cell; done) | (go_simp; done) | (simp; done))); (try have z1 : w3.cell? ⟨w.heap.size, 1, none⟩ = some (.int .i64 0) := (hbY.cell (p := ⟨w.heap.size, 1, none⟩) (by first | (go_size; done) | (simp; done) | (simp; omega))).trans (by first | assumption | (go_cell; done) | (go_simp; done) | (simp; done))); (try have zf1 : w3.frozen? ⟨w.heap.size, 1, none⟩ = false := (hbY.frozen (p := ⟨w.heap.size, 1, none⟩) (by first | (go_size; done) | (simp; done) | (simp; omega))).trans (by first | assumption | (go_cell; done) | (go_simp; done) | (simp; done))); (try have zs := cell_lt z0); (try have u0 : w3.cell? ⟨w2.heap.size, 0, none⟩ = some (.int .i64 0) := (hbY.cell (p := ⟨w2.heap.size, 0, none⟩) (by first | (go_size; done) | (simp; done) | (simp; omega))).trans (by first | assumption | (go_cell; done) | (go_simp; done) | (simp; done))); (try have uf0 : w3.frozen? ⟨w2.heap.size, 0, none⟩ = false := (hbY.frozen (p := ⟨w2.heap.size, 0, none⟩) (by first | (go_size; done) | (simp; done) | (simp; omega))).trans (by first | assumption | (go_cell; done) | (go_simp; done) | (simp; done))); (try have u1 : w3.cell? ⟨w2.heap.size, 1, none⟩ = some (.int .i64 0) := (hbY.cell (p := ⟨w2.heap.size, 1, none⟩) (by first | (go_size; done) | (simp; done) | (simp; omega))).trans (by first | assumption | (go_cell; done) | (go_simp; done) | (simp; done))); (try have uf1 : w3.frozen? ⟨w2.heap.size, 1, none⟩ = false := (hbY.frozen (p := ⟨w2.heap.size, 1, none⟩) (by first | (go_size; done) | (simp; done) | (simp; omega))).trans (by first | assumption | (go_cell; done) | (go_simp; done) | (simp; done))); (try have us := cell_lt u0); clear hbY)
          refine hK _ _ ?_
          clear hK K
          refine wpAny_seq 10 rfl (by kernel_rfl) ?_
          simp only [List.drop_succ_cons, List.drop_zero]
      rotate_left 2
      focus
        go_simp
        refine hK _ _ ?_
        clear hK K
        refine wpAny_ready (rs := [4]) (by kernel_rfl) (by simp) (AllReady.cons rfl (fun K hK => ?_) (AllReady.nil))
        go_simp
        refine hK _ _ ?_
        clear hK K
        refine wpAny_ready (rs := [8]) (by kernel_rfl) (by simp) (AllReady.cons rfl (fun K hK => ?_) (AllReady.nil))
        go_simp
        (refine Calls.mono (HV.out _) ?_; rintro e w3 ⟨rfl, hbY⟩; have hG3 : Below w.heap.size w w3 := belowTo (by go_grown) hbY; (try have z0 : w3.cell? ⟨w.heap.size, 0, none⟩ = some (.int .i64 0) := (hbY.cell (p := ⟨w.heap.size, 0, none⟩) (by first | (go_size; done) | (simp; done) | (simp; omega))).trans (by first | assumption | (go_cell; done) | (go_simp; done) | (simp; done))); (try have zf0 : w3.frozen? ⟨w.heap.size, 0, none⟩ = false := (hbY.frozen (p := ⟨w.heap.size, 0, none⟩) (by first | (go_size; done) | (simp; done) | (simp; omega))).trans (by first | assumption | (go_cell; done) | (go_simp; done) | (simp; done))); (try have z1 : w3.cell? ⟨w.heap.size, 1, none⟩ = some (.int .i64 0) := (hbY.cell (p := ⟨w.heap.size, 1, none⟩) (by first | (go_size; done) | (simp; done) | (simp; omega))).trans (by first | assumption | (go_cell; done) | (go_simp; done) | (simp; done))); (try have zf1 : w3.frozen? ⟨w.heap.size, 1, none⟩ = false := (hbY.frozen (p := ⟨w.heap.size, 1, none⟩) (by first | (go_size; done) | (simp; done) | (simp; omega))).trans (by first | assumption | (go_cell; done) | (go_simp; done) | (simp; done))); (try have zs := cell_lt z0); (try have u0 : w3.cell? ⟨w2.heap.size, 0, none⟩ = some (.int .i64 0) := (hbY.cell (p := ⟨w2.heap.size, 0, none⟩) (by first | (go_size; done) | (simp; done) | (simp; omega))).trans (by first | assumption | (go_cell; done) | (go_simp; done) | (simp; done))); (try have uf0 : w3.frozen? ⟨w2.heap.size, 0, none⟩ = false := (hbY.frozen (p := ⟨w2.heap.size, 0, none⟩) (by first | (go_size; done) | (simp; done) | (simp; omega))).trans (by first | assumption | (go_cell; done) | (go_simp; done) | (simp; done))); (try have u1 : w3.cell? ⟨w2.heap.size, 1, none⟩ = some (.int .i64 0) := (hbY.cell (p := ⟨w2.heap.size, 1, none⟩) (by first | (go_size; done) | (simp; done) | (simp; omega))).trans (by first | assumption | (go_cell; done) | (go_simp; done) | (simp; done))); (try have uf1 : w3.frozen? ⟨w2.heap.size, 1, none⟩ = false := (hbY.frozen (p := ⟨w2.heap.size, 1, none⟩) (by first | (go_size; done) | (simp; done) | (simp; omega))).trans (by first | assumption | (go_cell; done) | (go_simp; done) | (simp; done))); (try have us := cell_lt u0); clear hbY)
        refine hK _ _ ?_
        clear hK K
        refine wpAny_seq 10 rfl (by kernel_rfl) ?_
        simp only [List.drop_succ_cons, List.drop_zero]
    rotate_left 3
    focus
      go_simp
      refine hK _ _ ?_
      clear hK K
      refine wpAny_ready (rs := [4, 7]) (by kernel_rfl) (by simp) (AllReady.cons rfl (fun K hK => ?_) (AllReady.cons rfl (fun K hK => ?_) (AllReady.nil)))
      focus
        go_simp
        refine hK _ _ ?_
        clear hK K
        refine wpAny_ready (rs := [7]) (by kernel_rfl) (by simp) (AllReady.cons rfl (fun K hK => ?_) (AllReady.nil))
        go_simp
        refine hK _ _ ?_
        clear hK K
        refine wpAny_ready (rs := [8]) (by kernel_rfl) (by simp) (AllReady.cons rfl (fun K hK => ?_) (AllReady.nil))
        go_simp
        (refine Calls.mono (HV.out _) ?_; rintro e w3 ⟨rfl, hbY⟩; have hG3 : Below w.heap.size w w3 := belowTo (by go_grown) hbY; (try have z0 : w3.cell? ⟨w.heap.size, 0, none⟩ = some (.int .i64 0) := (hbY.cell (p := ⟨w.heap.size, 0, none⟩) (by first | (go_size; done) | (simp; done) | (simp; omega))).trans (by first | assumption | (go_cell; done) | (go_simp; done) | (simp; done))); (try have zf0 : w3.frozen? ⟨w.heap.size, 0, none⟩ = false := (hbY.frozen (p := ⟨w.heap.size, 0, none⟩) (by first | (go_size; done) | (simp; done) | (simp; omega))).trans (by first | assumption | (go_cell; done) | (go_simp; done) | (simp; done))); (try have z1 : w3.cell? ⟨w.heap.size, 1, none⟩ = some (.int .i64 0) := (hbY.cell (p := ⟨w.heap.size, 1, none⟩) (by first | (go_size; done) | (simp; done) | (simp; omega))).trans (by first | assumption | (go_cell; done) | (go_simp; done) | (simp; done))); (try have zf1 : w3.frozen? ⟨w.heap.size, 1, none⟩ = false := (hbY.frozen (p := ⟨w.heap.size, 1, none⟩) (by first | (go_size; done) | (simp; done) | (simp; omega))).trans (by first | assumption | (go_cell; done) | (go_simp; done) | (simp; done))); (try have zs := cell_lt z0); (try have u0 : w3.cell? ⟨w2.heap.size, 0, none⟩ = some (.int .i64 0) := (hbY.cell (p := ⟨w2.heap.size, 0, none⟩) (by first | (go_size; done) | (simp; done) | (simp; omega))).trans (by first | assumption | (go_cell; done) | (go_simp; done) | (simp; done))); (try have uf0 : w3.frozen? ⟨w2.heap.size, 0, none⟩ = false := (hbY.frozen (p := ⟨w2.heap.size, 0, none⟩) (by first | (go_size; done) | (simp; done) | (simp; omega))).trans (by first | assumption | (go_cell; done) | (go_simp; done) | (simp; done))); (try have u1 : w3.cell? ⟨w2.heap.size, 1, none⟩ = some (.int .i64 0) := (hbY.cell (p := ⟨w2.heap.size, 1, none⟩) (by first | (go_size; done) | (simp; done) | (simp; omega))).trans (by first | assumption | (go_cell; done) | (go_simp; done) | (simp; done))); (try have uf1 : w3.frozen? ⟨w2.heap.size, 1, none⟩ = false := (hbY.frozen (p := ⟨w2.heap.size, 1, none⟩) (by first | (go_size; done) | (simp; done) | (simp; omega))).trans (by first | assumption | (go_cell; done) | (go_simp; done) | (simp; done))); (try have us := cell_lt u0); clear hbY)
        refine hK _ _ ?_
        clear hK K
        refine wpAny_seq 10 rfl (by kernel_rfl) ?_
        simp only [List.drop_succ_cons, List.drop_zero]
      rotate_left 1
      focus
        go_simp
        refine hK _ _ ?_
        clear hK K
        refine wpAny_ready (rs := [4]) (by kernel_rfl) (by simp) (AllReady.cons rfl (fun K hK => ?_) (AllReady.nil))
        go_simp
        refine hK _ _ ?_
        clear hK K
        refine wpAny_ready (rs := [8]) (by kernel_rfl) (by simp) (AllReady.cons rfl (fun K hK => ?_) (AllReady.nil))
        go_simp
        (refine Calls.mono (HV.out _) ?_; rintro e w3 ⟨rfl, hbY⟩; have hG3 : Below w.heap.size w w3 := belowTo (by go_grown) hbY; (try have z0 : w3.cell? ⟨w.heap.size, 0, none⟩ = some (.int .i64 0) := (hbY.cell (p := ⟨w.heap.size, 0, none⟩) (by first | (go_size; done) | (simp; done) | (simp; omega))).trans (by first | assumption | (go_cell; done) | (go_simp; done) | (simp; done))); (try have zf0 : w3.frozen? ⟨w.heap.size, 0, none⟩ = false := (hbY.frozen (p := ⟨w.heap.size, 0, none⟩) (by first | (go_size; done) | (simp; done) | (simp; omega))).trans (by first | assumption | (go_cell; done) | (go_simp; done) | (simp; done))); (try have z1 : w3.cell? ⟨w.heap.size, 1, none⟩ = some (.int .i64 0) := (hbY.cell (p := ⟨w.heap.size, 1, none⟩) (by first | (go_size; done) | (simp; done) | (simp; omega))).trans (by first | assumption | (go_cell; done) | (go_simp; done) | (simp; done))); (try have zf1 : w3.frozen? ⟨w.heap.size, 1, none⟩ = false := (hbY.frozen (p := ⟨w.heap.size, 1, none⟩) (by first | (go_size; done) | (simp; done) | (simp; omega))).trans (by first | assumption | (go_cell; done) | (go_simp; done) | (simp; done))); (try have zs := cell_lt z0); (try have u0 : w3.cell? ⟨w2.heap.size, 0, none⟩ = some (.int .i64 0) := (hbY.cell (p := ⟨w2.heap.size, 0, none⟩) (by first | (go_size; done) | (simp; done) | (simp; omega))).trans (by first | assumption | (go_cell; done) | (go_simp; done) | (simp; done))); (try have uf0 : w3.frozen? ⟨w2.heap.size, 0, none⟩ = false := (hbY.frozen (p := ⟨w2.heap.size, 0, none⟩) (by first | (go_size; done) | (simp; done) | (simp; omega))).trans (by first | assumption | (go_cell; done) | (go_simp; done) | (simp; done))); (try have u1 : w3.cell? ⟨w2.heap.size, 1, none⟩ = some (.int .i64 0) := (hbY.cell (p := ⟨w2.heap.size, 1, none⟩) (by first | (go_size; done) | (simp; done) | (simp; omega))).trans (by first | assumption | (go_cell; done) | (go_simp; done) | (simp; done))); (try have uf1 : w3.frozen? ⟨w2.heap.size, 1, none⟩ = false := (hbY.frozen (p := ⟨w2.heap.size, 1, none⟩) (by first | (go_size; done) | (simp; done) | (simp; omega))).trans (by first | assumption | (go_cell; done) | (go_simp; done) | (simp; done))); (try have us := cell_lt u0); clear hbY)
        refine hK _ _ ?_
        clear hK K
        refine wpAny_seq 10 rfl (by kernel_rfl) ?_
        simp only [List.drop_succ_cons, List.drop_zero]
  rotate_left 8
  focus
    go_simp
    refine hK _ _ ?_
    clear hK K
    refine wpAny_ready (rs := [1, 7, 9]) (by kernel_rfl) (by simp) (AllReady.cons rfl (fun K hK => ?_) (AllReady.cons rfl (fun K hK => ?_) (AllReady.cons rfl (fun K hK => ?_) (AllReady.nil))))
    focus
      go_simp
      (refine Calls.mono (HC.out _ (by go_grown)) ?_; rintro e w2 ⟨rfl, hbX⟩; have hG2 : Below w.heap.size w w2 := belowTo (by go_grown) hbX; have hg2 := hG2.size; have f0 := HCs.out w2 hG2 0 (by have := HN.out; omega); have f1 := HCs.out w2 hG2 1 (by have := HN.out; omega); rw [HX.out, Nat.add_zero] at f0; rw [HY.out] at f1; have hbl2 := Nat.lt_of_lt_of_le hbb hG2.size; (try have y0 : w2.cell? ⟨w.heap.size, 0, none⟩ = some (.int .i64 0) := (hbX.cell (p := ⟨w.heap.size, 0, none⟩) (by first | (go_size; done) | (simp; done) | (simp; omega))).trans (by first | assumption | (go_cell; done) | (go_simp; done) | (simp; done))); (try have yf0 : w2.frozen? ⟨w.heap.size, 0, none⟩ = false := (hbX.frozen (p := ⟨w.heap.size, 0, none⟩) (by first | (go_size; done) | (simp; done) | (simp; omega))).trans (by first | assumption | (go_cell; done) | (go_simp; done) | (simp; done))); (try have y1 : w2.cell? ⟨w.heap.size, 1, none⟩ = some (.int .i64 0) := (hbX.cell (p := ⟨w.heap.size, 1, none⟩) (by first | (go_size; done) | (simp; done) | (simp; omega))).trans (by first | assumption | (go_cell; done) | (go_simp; done) | (simp; done))); (try have yf1 : w2.frozen? ⟨w.heap.size, 1, none⟩ = false := (hbX.frozen (p := ⟨w.heap.size, 1, none⟩) (by first | (go_size; done) | (simp; done) | (simp; omega))).trans (by first | assumption | (go_cell; done) | (go_simp; done) | (simp; done))); (try have ys := cell_lt y0); clear hbX)
      refine hK _ _ ?_
      clear hK K
      refine wpAny_ready (rs := [7, 9]) (by kernel_rfl) (by simp) (AllReady.cons rfl (fun K hK => ?_) (AllReady.cons rfl (fun K hK => ?_) (AllReady.nil)))
      focus
        go_simp
        refine hK _ _ ?_
        clear hK K
        refine wpAny_ready (rs := [8, 9]) (by kernel_rfl) (by simp) (AllReady.cons rfl (fun K hK => ?_) (AllReady.cons rfl (fun K hK => ?_) (AllReady.nil)))
        focus
          go_simp
          (refine Calls.mono (HV.out _) ?_; rintro e w3 ⟨rfl, hbY⟩; have hG3 : Below w.heap.size w w3 := belowTo (by go_grown) hbY; (try have z0 : w3.cell? ⟨w.heap.size, 0, none⟩ = some (.int .i64 0) := (hbY.cell (p := ⟨w.heap.size, 0, none⟩) (by first | (go_size; done) | (simp; done) | (simp; omega))).trans (by first | assumption | (go_cell; done) | (go_simp; done) | (simp; done))); (try have zf0 : w3.frozen? ⟨w.heap.size, 0, none⟩ = false := (hbY.frozen (p := ⟨w.heap.size, 0, none⟩) (by first | (go_size; done) | (simp; done) | (simp; omega))).trans (by first | assumption | (go_cell; done) | (go_simp; done) | (simp; done))); (try have z1 : w3.cell? ⟨w.heap.size, 1, none⟩ = some (.int .i64 0) := (hbY.cell (p := ⟨w.heap.size, 1, none⟩) (by first | (go_size; done) | (simp; done) | (simp; omega))).trans (by first | assumption | (go_cell; done) | (go_simp; done) | (simp; done))); (try have zf1 : w3.frozen? ⟨w.heap.size, 1, none⟩ = false := (hbY.frozen (p := ⟨w.heap.size, 1, none⟩) (by first | (go_size; done) | (simp; done) | (simp; omega))).trans (by first | assumption | (go_cell; done) | (go_simp; done) | (simp; done))); (try have zs := cell_lt z0); (try have u0 : w3.cell? ⟨w2.heap.size, 0, none⟩ = some (.int .i64 0) := (hbY.cell (p := ⟨w2.heap.size, 0, none⟩) (by first | (go_size; done) | (simp; done) | (simp; omega))).trans (by first | assumption | (go_cell; done) | (go_simp; done) | (simp; done))); (try have uf0 : w3.frozen? ⟨w2.heap.size, 0, none⟩ = false := (hbY.frozen (p := ⟨w2.heap.size, 0, none⟩) (by first | (go_size; done) | (simp; done) | (simp; omega))).trans (by first | assumption | (go_cell; done) | (go_simp; done) | (simp; done))); (try have u1 : w3.cell? ⟨w2.heap.size, 1, none⟩ = some (.int .i64 0) := (hbY.cell (p := ⟨w2.heap.size, 1, none⟩) (by first | (go_size; done) | (simp; done) | (simp; omega))).trans (by first | assumption | (go_cell; done) | (go_simp; done) | (simp; done))); (try have uf1 : w3.frozen? ⟨w2.heap.size, 1, none⟩ = false := (hbY.frozen (p := ⟨w2.heap.size, 1, none⟩) (by first | (go_size; done) | (simp; done) | (simp; omega))).trans (by first | assumption | (go_cell; done) | (go_simp; done) | (simp; done))); (try have us := cell_lt u0); clear hbY)
          refine hK _ _ ?_
          clear hK K
          refine wpAny_ready (rs := [9]) (by kernel_rfl) (by simp) (AllReady.cons rfl (fun K hK => ?_) (AllReady.nil))
          go_simp
          refine hK _ _ ?_
          clear hK K
          refine wpAny_seq 10 rfl (by kernel_rfl) ?_
          simp only [List.drop_succ_cons, List.drop_zero]
        rotate_left 1
        focus
          go_simp
          refine hK _ _ ?_
          clear hK K
          refine wpAny_ready (rs := [8]) (by kernel_rfl) (by simp) (AllReady.cons rfl (fun K hK => ?_) (AllReady.nil))
          go_simp
          (refine Calls.mono (HV.out _) ?_; rintro e w3 ⟨rfl, hbY⟩; have hG3 : Below w.heap.size w w3 := belowTo (by go_grown) hbY; (try have z0 : w3.cell? ⟨w.heap.size, 0, none⟩ = some (.int .i64 0) := (hbY.cell (p := ⟨w.heap.size, 0, none⟩) (by first | (go_size; done) | (simp; done) | (simp; omega))).trans (by first | assumption | (go_cell; done) | (go_simp; done) | (simp; done))); (try have zf0 : w3.frozen? ⟨w.heap.size, 0, none⟩ = false := (hbY.frozen (p := ⟨w.heap.size, 0, none⟩) (by first | (go_size; done) | (simp; done) | (simp; omega))).trans (by first | assumption | (go_cell; done) | (go_simp; done) | (simp; done))); (try have z1 : w3.cell? ⟨w.heap.size, 1, none⟩ = some (.int .i64 0) := (hbY.cell (p := ⟨w.heap.size, 1, none⟩) (by first | (go_size; done) | (simp; done) | (simp; omega))).trans (by first | assumption | (go_cell; done) | (go_simp; done) | (simp; done))); (try have zf1 : w3.frozen? ⟨w.heap.size, 1, none⟩ = false := (hbY.frozen (p := ⟨w.heap.size, 1, none⟩) (by first | (go_size; done) | (simp; done) | (simp; omega))).trans (by first | assumption | (go_cell; done) | (go_simp; done) | (simp; done))); (try have zs := cell_lt z0); (try have u0 : w3.cell? ⟨w2.heap.size, 0, none⟩ = some (.int .i64 0) := (hbY.cell (p := ⟨w2.heap.size, 0, none⟩) (by first | (go_size; done) | (simp; done) | (simp; omega))).trans (by first | assumption | (go_cell; done) | (go_simp; done) | (simp; done))); (try have uf0 : w3.frozen? ⟨w2.heap.size, 0, none⟩ = false := (hbY.frozen (p := ⟨w2.heap.size, 0, none⟩) (by first | (go_size; done) | (simp; done) | (simp; omega))).trans (by first | assumption | (go_cell; done) | (go_simp; done) | (simp; done))); (try have u1 : w3.cell? ⟨w2.heap.size, 1, none⟩ = some (.int .i64 0) := (hbY.cell (p := ⟨w2.heap.size, 1, none⟩) (by first | (go_size; done) | (simp; done) | (simp; omega))).trans (by first | assumption | (go_cell; done) | (go_simp; done) | (simp; done))); (try have uf1 : w3.frozen? ⟨w2.heap.size, 1, none⟩ = false := (hbY.frozen (p := ⟨w2.heap.size, 1, none⟩) (by first | (go_size; done) | (simp; done) | (simp; omega))).trans (by first | assumption | (go_cell; done) | (go_simp; done) | (simp; done))); (try have us := cell_lt u0); clear hbY)
          refine hK _ _ ?_
          clear hK K
          refine wpAny_seq 10 rfl (by kernel_rfl) ?_
          simp only [List.drop_succ_cons, List.drop_zero]
      rotate_left 2
      focus
        go_simp
        refine hK _ _ ?_
        clear hK K
        refine wpAny_ready (rs := [7]) (by kernel_rfl) (by simp) (AllReady.cons rfl (fun K hK => ?_) (AllReady.nil))
        go_simp
        refine hK _ _ ?_
        clear hK K
        refine wpAny_ready (rs := [8]) (by kernel_rfl) (by simp) (AllReady.cons rfl (fun K hK => ?_) (AllReady.nil))
        go_simp
        (refine Calls.mono (HV.out _) ?_; rintro e w3 ⟨rfl, hbY⟩; have hG3 : Below w.heap.size w w3 := belowTo (by go_grown) hbY; (try have z0 : w3.cell? ⟨w.heap.size, 0, none⟩ = some (.int .i64 0) := (hbY.cell (p := ⟨w.heap.size, 0, none⟩) (by first | (go_size; done) | (simp; done) | (simp; omega))).trans (by first | assumption | (go_cell; done) | (go_simp; done) | (simp; done))); (try have zf0 : w3.frozen? ⟨w.heap.size, 0, none⟩ = false := (hbY.frozen (p := ⟨w.heap.size, 0, none⟩) (by first | (go_size; done) | (simp; done) | (simp; omega))).trans (by first | assumption | (go_cell; done) | (go_simp; done) | (simp; done))); (try have z1 : w3.cell? ⟨w.heap.size, 1, none⟩ = some (.int .i64 0) := (hbY.cell (p := ⟨w.heap.size, 1, none⟩) (by first | (go_size; done) | (simp; done) | (simp; omega))).trans (by first | assumption | (go_cell; done) | (go_simp; done) | (simp; done))); (try have zf1 : w3.frozen? ⟨w.heap.size, 1, none⟩ = false := (hbY.frozen (p := ⟨w.heap.size, 1, none⟩) (by first | (go_size; done) | (simp; done) | (simp; omega))).trans (by first | assumption | (go_cell; done) | (go_simp; done) | (simp; done))); (try have zs := cell_lt z0); (try have u0 : w3.cell? ⟨w2.heap.size, 0, none⟩ = some (.int .i64 0) := (hbY.cell (p := ⟨w2.heap.size, 0, none⟩) (by first | (go_size; done) | (simp; done) | (simp; omega))).trans (by first | assumption | (go_cell; done) | (go_simp; done) | (simp; done))); (try have uf0 : w3.frozen? ⟨w2.heap.size, 0, none⟩ = false := (hbY.frozen (p := ⟨w2.heap.size, 0, none⟩) (by first | (go_size; done) | (simp; done) | (simp; omega))).trans (by first | assumption | (go_cell; done) | (go_simp; done) | (simp; done))); (try have u1 : w3.cell? ⟨w2.heap.size, 1, none⟩ = some (.int .i64 0) := (hbY.cell (p := ⟨w2.heap.size, 1, none⟩) (by first | (go_size; done) | (simp; done) | (simp; omega))).trans (by first | assumption | (go_cell; done) | (go_simp; done) | (simp; done))); (try have uf1 : w3.frozen? ⟨w2.heap.size, 1, none⟩ = false := (hbY.frozen (p := ⟨w2.heap.size, 1, none⟩) (by first | (go_size; done) | (simp; done) | (simp; omega))).trans (by first | assumption | (go_cell; done) | (go_simp; done) | (simp; done))); (try have us := cell_lt u0); clear hbY)
        refine hK _ _ ?_
        clear hK K
        refine wpAny_seq 10 rfl (by kernel_rfl) ?_
        simp only [List.drop_succ_cons, List.drop_zero]
    rotate_left 3
    focus
      go_simp
      refine hK _ _ ?_
      clear hK K
      refine wpAny_ready (rs := [1, 9]) (by kernel_rfl) (by simp) (AllReady.cons rfl (fun K hK => ?_) (AllReady.cons rfl (fun K hK => ?_) (AllReady.nil)))
      focus
        go_simp
        (refine Calls.mono (HC.out _ (by go_grown)) ?_; rintro e w2 ⟨rfl, hbX⟩; have hG2 : Below w.heap.size w w2 := belowTo (by go_grown) hbX; have hg2 := hG2.size; have f0 := HCs.out w2 hG2 0 (by have := HN.out; omega); have f1 := HCs.out w2 hG2 1 (by have := HN.out; omega); rw [HX.out, Nat.add_zero] at f0; rw [HY.out] at f1; have hbl2 := Nat.lt_of_lt_of_le hbb hG2.size; (try have y0 : w2.cell? ⟨w.heap.size, 0, none⟩ = some (.int .i64 0) := (hbX.cell (p := ⟨w.heap.size, 0, none⟩) (by first | (go_size; done) | (simp; done) | (simp; omega))).trans (by first | assumption | (go_cell; done) | (go_simp; done) | (simp; done))); (try have yf0 : w2.frozen? ⟨w.heap.size, 0, none⟩ = false := (hbX.frozen (p := ⟨w.heap.size, 0, none⟩) (by first | (go_size; done) | (simp; done) | (simp; omega))).trans (by first | assumption | (go_cell; done) | (go_simp; done) | (simp; done))); (try have y1 : w2.cell? ⟨w.heap.size, 1, none⟩ = some (.int .i64 0) := (hbX.cell (p := ⟨w.heap.size, 1, none⟩) (by first | (go_size; done) | (simp; done) | (simp; omega))).trans (by first | assumption | (go_cell; done) | (go_simp; done) | (simp; done))); (try have yf1 : w2.frozen? ⟨w.heap.size, 1, none⟩ = false := (hbX.frozen (p := ⟨w.heap.size, 1, none⟩) (by first | (go_size; done) | (simp; done) | (simp; omega))).trans (by first | assumption | (go_cell; done) | (go_simp; done) | (simp; done))); (try have ys := cell_lt y0); clear hbX)
        refine hK _ _ ?_
        clear hK K
        refine wpAny_ready (rs := [8, 9]) (by kernel_rfl) (by simp) (AllReady.cons rfl (fun K hK => ?_) (AllReady.cons rfl (fun K hK => ?_) (AllReady.nil)))
        focus
          go_simp
          (refine Calls.mono (HV.out _) ?_; rintro e w3 ⟨rfl, hbY⟩; have hG3 : Below w.heap.size w w3 := belowTo (by go_grown) hbY; (try have z0 : w3.cell? ⟨w.heap.size, 0, none⟩ = some (.int .i64 0) := (hbY.cell (p := ⟨w.heap.size, 0, none⟩) (by first | (go_size; done) | (simp; done) | (simp; omega))).trans (by first | assumption | (go_cell; done) | (go_simp; done) | (simp; done))); (try have zf0 : w3.frozen? ⟨w.heap.size, 0, none⟩ = false := (hbY.frozen (p := ⟨w.heap.size, 0, none⟩) (by first | (go_size; done) | (simp; done) | (simp; omega))).trans (by first | assumption | (go_cell; done) | (go_simp; done) | (simp; done))); (try have z1 : w3.cell? ⟨w.heap.size, 1, none⟩ = some (.int .i64 0) := (hbY.cell (p := ⟨w.heap.size, 1, none⟩) (by first | (go_size; done) | (simp; done) | (simp; omega))).trans (by first | assumption | (go_cell; done) | (go_simp; done) | (simp; done))); (try have zf1 : w3.frozen? ⟨w.heap.size, 1, none⟩ = false := (hbY.frozen (p := ⟨w.heap.size, 1, none⟩) (by first | (go_size; done) | (simp; done) | (simp; omega))).trans (by first | assumption | (go_cell; done) | (go_simp; done) | (simp; done))); (try have zs := cell_lt z0); (try have u0 : w3.cell? ⟨w2.heap.size, 0, none⟩ = some (.int .i64 0) := (hbY.cell (p := ⟨w2.heap.size, 0, none⟩) (by first | (go_size; done) | (simp; done) | (simp; omega))).trans (by first | assumption | (go_cell; done) | (go_simp; done) | (simp; done))); (try have uf0 : w3.frozen? ⟨w2.heap.size, 0, none⟩ = false := (hbY.frozen (p := ⟨w2.heap.size, 0, none⟩) (by first | (go_size; done) | (simp; done) | (simp; omega))).trans (by first | assumption | (go_cell; done) | (go_simp; done) | (simp; done))); (try have u1 : w3.cell? ⟨w2.heap.size, 1, none⟩ = some (.int .i64 0) := (hbY.cell (p := ⟨w2.heap.size, 1, none⟩) (by first | (go_size; done) | (simp; done) | (simp; omega))).trans (by first | assumption | (go_cell; done) | (go_simp; done) | (simp; done))); (try have uf1 : w3.frozen? ⟨w2.heap.size, 1, none⟩ = false := (hbY.frozen (p := ⟨w2.heap.size, 1, none⟩) (by first | (go_size; done) | (simp; done) | (simp; omega))).trans (by first | assumption | (go_cell; done) | (go_simp; done) | (simp; done))); (try have us := cell_lt u0); clear hbY)
          refine hK _ _ ?_
          clear hK K
          refine wpAny_ready (rs := [9]) (by kernel_rfl) (by simp) (AllReady.cons rfl (fun K hK => ?_) (AllReady.nil))
          go_simp
          refine hK _ _ ?_
          clear hK K
          refine wpAny_seq 10 rfl (by kernel_rfl) ?_
          simp only [List.drop_succ_cons, List.drop_zero]
        rotate_left 1
        focus
          go_simp
          refine hK _ _ ?_
          clear hK K
          refine wpAny_ready (rs := [8]) (by kernel_rfl) (by simp) (AllReady.cons rfl (fun K hK => ?_) (AllReady.nil))
          go_simp
          (refine Calls.mono (HV.out _) ?_; rintro e w3 ⟨rfl, hbY⟩; have hG3 : Below w.heap.size w w3 := belowTo (by go_grown) hbY; (try have z0 : w3.cell? ⟨w.heap.size, 0, none⟩ = some (.int .i64 0) := (hbY.cell (p := ⟨w.heap.size, 0, none⟩) (by first | (go_size; done) | (simp; done) | (simp; omega))).trans (by first | assumption | (go_cell; done) | (go_simp; done) | (simp; done))); (try have zf0 : w3.frozen? ⟨w.heap.size, 0, none⟩ = false := (hbY.frozen (p := ⟨w.heap.size, 0, none⟩) (by first | (go_size; done) | (simp; done) | (simp; omega))).trans (by first | assumption | (go_cell; done) | (go_simp; done) | (simp; done))); (try have z1 : w3.cell? ⟨w.heap.size, 1, none⟩ = some (.int .i64 0) := (hbY.cell (p := ⟨w.heap.size, 1, none⟩) (by first | (go_size; done) | (simp; done) | (simp; omega))).trans (by first | assumption | (go_cell; done) | (go_simp; done) | (simp; done))); (try have zf1 : w3.frozen? ⟨w.heap.size, 1, none⟩ = false := (hbY.frozen (p := ⟨w.heap.size, 1, none⟩) (by first | (go_size; done) | (simp; done) | (simp; omega))).trans (by first | assumption | (go_cell; done) | (go_simp; done) | (simp; done))); (try have zs := cell_lt z0); (try have u0 : w3.cell? ⟨w2.heap.size, 0, none⟩ = some (.int .i64 0) := (hbY.cell (p := ⟨w2.heap.size, 0, none⟩) (by first | (go_size; done) | (simp; done) | (simp; omega))).trans (by first | assumption | (go_cell; done) | (go_simp; done) | (simp; done))); (try have uf0 : w3.frozen? ⟨w2.heap.size, 0, none⟩ = false := (hbY.frozen (p := ⟨w2.heap.size, 0, none⟩) (by first | (go_size; done) | (simp; done) | (simp; omega))).trans (by first | assumption | (go_cell; done) | (go_simp; done) | (simp; done))); (try have u1 : w3.cell? ⟨w2.heap.size, 1, none⟩ = some (.int .i64 0) := (hbY.cell (p := ⟨w2.heap.size, 1, none⟩) (by first | (go_size; done) | (simp; done) | (simp; omega))).trans (by first | assumption | (go_cell; done) | (go_simp; done) | (simp; done))); (try have uf1 : w3.frozen? ⟨w2.heap.size, 1, none⟩ = false := (hbY.frozen (p := ⟨w2.heap.size, 1, none⟩) (by first | (go_size; done) | (simp; done) | (simp; omega))).trans (by first | assumption | (go_cell; done) | (go_simp; done) | (simp; done))); (try have us := cell_lt u0); clear hbY)
          refine hK _ _ ?_
          clear hK K
          refine wpAny_seq 10 rfl (by kernel_rfl) ?_
          simp only [List.drop_succ_cons, List.drop_zero]
      rotate_left 2
      focus
        go_simp
        refine hK _ _ ?_
        clear hK K
        refine wpAny_ready (rs := [1]) (by kernel_rfl) (by simp) (AllReady.cons rfl (fun K hK => ?_) (AllReady.nil))
        go_simp
        (refine Calls.mono (HC.out _ (by go_grown)) ?_; rintro e w2 ⟨rfl, hbX⟩; have hG2 : Below w.heap.size w w2 := belowTo (by go_grown) hbX; have hg2 := hG2.size; have f0 := HCs.out w2 hG2 0 (by have := HN.out; omega); have f1 := HCs.out w2 hG2 1 (by have := HN.out; omega); rw [HX.out, Nat.add_zero] at f0; rw [HY.out] at f1; have hbl2 := Nat.lt_of_lt_of_le hbb hG2.size; (try have y0 : w2.cell? ⟨w.heap.size, 0, none⟩ = some (.int .i64 0) := (hbX.cell (p := ⟨w.heap.size, 0, none⟩) (by first | (go_size; done) | (simp; done) | (simp; omega))).trans (by first | assumption | (go_cell; done) | (go_simp; done) | (simp; done))); (try have yf0 : w2.frozen? ⟨w.heap.size, 0, none⟩ = false := (hbX.frozen (p := ⟨w.heap.size, 0, none⟩) (by first | (go_size; done) | (simp; done) | (simp; omega))).trans (by first | assumption | (go_cell; done) | (go_simp; done) | (simp; done))); (try have y1 : w2.cell? ⟨w.heap.size, 1, none⟩ = some (.int .i64 0) := (hbX.cell (p := ⟨w.heap.size, 1, none⟩) (by first | (go_size; done) | (simp; done) | (simp; omega))).trans (by first | assumption | (go_cell; done) | (go_simp; done) | (simp; done))); (try have yf1 : w2.frozen? ⟨w.heap.size, 1, none⟩ = false := (hbX.frozen (p := ⟨w.heap.size, 1, none⟩) (by first | (go_size; done) | (simp; done) | (simp; omega))).trans (by first | assumption | (go_cell; done) | (go_simp; done) | (simp; done))); (try have ys := cell_lt y0); clear hbX)
        refine hK _ _ ?_
        clear hK K
        refine wpAny_ready (rs := [8]) (by kernel_rfl) (by simp) (AllReady.cons rfl (fun K hK => ?_) (AllReady.nil))
        go_simp
        (refine Calls.mono (HV.out _) ?_; rintro e w3 ⟨rfl, hbY⟩; have hG3 : Below w.heap.size w w3 := belowTo (by go_grown) hbY; (try have z0 : w3.cell? ⟨w.heap.size, 0, none⟩ = some (.int .i64 0) := (hbY.cell (p := ⟨w.heap.size, 0, none⟩) (by first | (go_size; done) | (simp; done) | (simp; omega))).trans (by first | assumption | (go_cell; done) | (go_simp; done) | (simp; done))); (try have zf0 : w3.frozen? ⟨w.heap.size, 0, none⟩ = false := (hbY.frozen (p := ⟨w.heap.size, 0, none⟩) (by first | (go_size; done) | (simp; done) | (simp; omega))).trans (by first | assumption | (go_cell; done) | (go_simp; done) | (simp; done))); (try have z1 : w3.cell? ⟨w.heap.size, 1, none⟩ = some (.int .i64 0) := (hbY.cell (p := ⟨w.heap.size, 1, none⟩) (by first | (go_size; done) | (simp; done) | (simp; omega))).trans (by first | assumption | (go_cell; done) | (go_simp; done) | (simp; done))); (try have zf1 : w3.frozen? ⟨w.heap.size, 1, none⟩ = false := (hbY.frozen (p := ⟨w.heap.size, 1, none⟩) (by first | (go_size; done) | (simp; done) | (simp; omega))).trans (by first | assumption | (go_cell; done) | (go_simp; done) | (simp; done))); (try have zs := cell_lt z0); (try have u0 : w3.cell? ⟨w2.heap.size, 0, none⟩ = some (.int .i64 0) := (hbY.cell (p := ⟨w2.heap.size, 0, none⟩) (by first | (go_size; done) | (simp; done) | (simp; omega))).trans (by first | assumption | (go_cell; done) | (go_simp; done) | (simp; done))); (try have uf0 : w3.frozen? ⟨w2.heap.size, 0, none⟩ = false := (hbY.frozen (p := ⟨w2.heap.size, 0, none⟩) (by first | (go_size; done) | (simp; done) | (simp; omega))).trans (by first | assumption | (go_cell; done) | (go_simp; done) | (simp; done))); (try have u1 : w3.cell? ⟨w2.heap.size, 1, none⟩ = some (.int .i64 0) := (hbY.cell (p := ⟨w2.heap.size, 1, none⟩) (by first | (go_size; done) | (simp; done) | (simp; omega))).trans (by first | assumption | (go_cell; done) | (go_simp; done) | (simp; done))); (try have uf1 : w3.frozen? ⟨w2.heap.size, 1, none⟩ = false := (hbY.frozen (p := ⟨w2.heap.size, 1, none⟩) (by first | (go_size; done) | (simp; done) | (simp; omega))).trans (by first | assumption | (go_cell; done) | (go_simp; done) | (simp; done))); (try have us := cell_lt u0); clear hbY)
        refine hK _ _ ?_
        clear hK K
        refine wpAny_seq 10 rfl (by kernel_rfl) ?_
        simp only [List.drop_succ_cons, List.drop_zero]
    rotate_left 3
    focus
      go_simp
      refine hK _ _ ?_
      clear hK K
      refine wpAny_ready (rs := [1, 7]) (by kernel_rfl) (by simp) (AllReady.cons rfl (fun K hK => ?_) (AllReady.cons rfl (fun K hK => ?_) (AllReady.nil)))
      focus
        go_simp
        (refine Calls.mono (HC.out _ (by go_grown)) ?_; rintro e w2 ⟨rfl, hbX⟩; have hG2 : Below w.heap.size w w2 := belowTo (by go_grown) hbX; have hg2 := hG2.size; have f0 := HCs.out w2 hG2 0 (by have := HN.out; omega); have f1 := HCs.out w2 hG2 1 (by have := HN.out; omega); rw [HX.out, Nat.add_zero] at f0; rw [HY.out] at f1; have hbl2 := Nat.lt_of_lt_of_le hbb hG2.size; (try have y0 : w2.cell? ⟨w.heap.size, 0, none⟩ = some (.int .i64 0) := (hbX.cell (p := ⟨w.heap.size, 0, none⟩) (by first | (go_size; done) | (simp; done) | (simp; omega))).trans (by first | assumption | (go_cell; done) | (go_simp; done) | (simp; done))); (try have yf0 : w2.frozen? ⟨w.heap.size, 0, none⟩ = false := (hbX.frozen (p := ⟨w.heap.size, 0, none⟩) (by first | (go_size; done) | (simp; done) | (simp; omega))).trans (by first | assumption | (go_cell; done) | (go_simp; done) | (simp; done))); (try have y1 : w2.cell? ⟨w.heap.size, 1, none⟩ = some (.int .i64 0) := (hbX.cell (p := ⟨w.heap.size, 1, none⟩) (by first | (go_size; done) | (simp; done) | (simp; omega))).trans (by first | assumption | (go_cell; done) | (go_simp; done) | (simp; done))); (try have yf1 : w2.frozen? ⟨w.heap.size, 1, none⟩ = false := (hbX.frozen (p := ⟨w.heap.size, 1, none⟩) (by first | (go_size; done) | (simp; done) | (simp; omega))).trans (by first | assumption | (go_cell; done) | (go_simp; done) | (simp; done))); (try have ys := cell_lt y0); clear hbX)
        refine hK _ _ ?_
        clear hK K
        refine wpAny_ready (rs := [7]) (by kernel_rfl) (by simp) (AllReady.cons rfl (fun K hK => ?_) (AllReady.nil))
        go_simp
        refine hK _ _ ?_
        clear hK K
        refine wpAny_ready (rs := [8]) (by kernel_rfl) (by simp) (AllReady.cons rfl (fun K hK => ?_) (AllReady.nil))
        go_simp
        (refine Calls.mono (HV.out _) ?_; rintro e w3 ⟨rfl, hbY⟩; have hG3 : Below w.heap.size w w3 := belowTo (by go_grown) hbY; (try have z0 : w3.cell? ⟨w.heap.size, 0, none⟩ = some (.int .i64 0) := (hbY.cell (p := ⟨w.heap.size, 0, none⟩) (by first | (go_size; done) | (simp; done) | (simp; omega))).trans (by first | assumption | (go_cell; done) | (go_simp; done) | (simp; done))); (try have zf0 : w3.frozen? ⟨w.heap.size, 0, none⟩ = false := (hbY.frozen (p := ⟨w.heap.size, 0, none⟩) (by first | (go_size; done) | (simp; done) | (simp; omega))).trans (by first | assumption | (go_cell; done) | (go_simp; done) | (simp; done))); (try have z1 : w3.cell? ⟨w.heap.size, 1, none⟩ = some (.int .i64 0) := (hbY.cell (p := ⟨w.heap.size, 1, none⟩) (by first | (go_size; done) | (simp; done) | (simp; omega))).trans (by first | assumption | (go_cell; done) | (go_simp; done) | (simp; done))); (try have zf1 : w3.frozen? ⟨w.heap.size, 1, none⟩ = false := (hbY.frozen (p := ⟨w.heap.size, 1, none⟩) (by first | (go_size; done) | (simp; done) | (simp; omega))).trans (by first | assumption | (go_cell; done) | (go_simp; done) | (simp; done))); (try have zs := cell_lt z0); (try have u0 : w3.cell? ⟨w2.heap.size, 0, none⟩ = some (.int .i64 0) := (hbY.cell (p := ⟨w2.heap.size, 0, none⟩) (by first | (go_size; done) | (simp; done) | (simp; omega))).trans (by first | assumption | (go_cell; done) | (go_simp; done) | (simp; done))); (try have uf0 : w3.frozen? ⟨w2.heap.size, 0, none⟩ = false := (hbY.frozen (p := ⟨w2.heap.size, 0, none⟩) (by first | (go_size; done) | (simp; done) | (simp; omega))).trans (by first | assumption | (go_cell; done) | (go_simp; done) | (simp; done))); (try have u1 : w3.cell? ⟨w2.heap.size, 1, none⟩ = some (.int .i64 0) := (hbY.cell (p := ⟨w2.heap.size, 1, none⟩) (by first | (go_size; done) | (simp; done) | (simp; omega))).trans (by first | assumption | (go_cell; done) | (go_simp; done) | (simp; done))); (try have uf1 : w3.frozen? ⟨w2.heap.size, 1, none⟩ = false := (hbY.frozen (p := ⟨w2.heap.size, 1, none⟩) (by first | (go_size; done) | (simp; done) | (simp; omega))).trans (by first | assumption | (go_cell; done) | (go_simp; done) | (simp; done))); (try have us := cell_lt u0); clear hbY)
        refine hK _ _ ?_
        clear hK K
        refine wpAny_seq 10 rfl (by kernel_rfl) ?_
        simp only [List.drop_succ_cons, List.drop_zero]
      rotate_left 1
      focus
        go_simp
        refine hK _ _ ?_
        clear hK K
        refine wpAny_ready (rs := [1]) (by kernel_rfl) (by simp) (AllReady.cons rfl (fun K hK => ?_) (AllReady.nil))
        go_simp
        (refine Calls.mono (HC.out _ (by go_grown)) ?_; rintro e w2 ⟨rfl, hbX⟩; have hG2 : Below w.heap.size w w2 := belowTo (by go_grown) hbX; have hg2 := hG2.size; have f0 := HCs.out w2 hG2 0 (by have := HN.out; omega); have f1 := HCs.out w2 hG2 1 (by have := HN.out; omega); rw [HX.out, Nat.add_zero] at f0; rw [HY.out] at f1; have hbl2 := Nat.lt_of_lt_of_le hbb hG2.size; (try have y0 : w2.cell? ⟨w.heap.size, 0, none⟩ = some (.int .i64 0) := (hbX.cell (p := ⟨w.heap.size, 0, none⟩) (by first | (go_size; done) | (simp; done) | (simp; omega))).trans (by first | assumption | (go_cell; done) | (go_simp; done) | (simp; done))); (try have yf0 : w2.frozen? ⟨w.heap.size, 0, none⟩ = false := (hbX.frozen (p := ⟨w.heap.size, 0, none⟩) (by first | (go_size; done) | (simp; done) | (simp; omega))).trans (by first | assumption | (go_cell; done) | (go_simp; done) | (simp; done))); (try have y1 : w2.cell? ⟨w.heap.size, 1, none⟩ = some (.int .i64 0) := (hbX.cell (p := ⟨w.heap.size, 1, none⟩) (by first | (go_size; done) | (simp; done) | (simp; omega))).trans (by first | assumption | (go_cell; done) | (go_simp; done) | (simp; done))); (try have yf1 : w2.frozen? ⟨w.heap.size, 1, none⟩ = false := (hbX.frozen (p := ⟨w.heap.size, 1, none⟩) (by first | (go_size; done) | (simp; done) | (simp; omega))).trans (by first | assumption | (go_cell; done) | (go_simp; done) | (simp; done))); (try have ys := cell_lt y0); clear hbX)
        refine hK _ _ ?_
        clear hK K
        refine wpAny_ready (rs := [8]) (by kernel_rfl) (by simp) (AllReady.cons rfl (fun K hK => ?_) (AllReady.nil))
        go_simp
        (refine Calls.mono (HV.out _) ?_; rintro e w3 ⟨rfl, hbY⟩; have hG3 : Below w.heap.size w w3 := belowTo (by go_grown) hbY; (try have z0 : w3.cell? ⟨w.heap.size, 0, none⟩ = some (.int .i64 0) := (hbY.cell (p := ⟨w.heap.size, 0, none⟩) (by first | (go_size; done) | (simp; done) | (simp; omega))).trans (by first | assumption | (go_cell; done) | (go_simp; done) | (simp; done))); (try have zf0 : w3.frozen? ⟨w.heap.size, 0, none⟩ = false := (hbY.frozen (p := ⟨w.heap.size, 0, none⟩) (by first | (go_size; done) | (simp; done) | (simp; omega))).trans (by first | assumption | (go_cell; done) | (go_simp; done) | (simp; done))); (try have z1 : w3.cell? ⟨w.heap.size, 1, none⟩ = some (.int .i64 0) := (hbY.cell (p := ⟨w.heap.size, 1, none⟩) (by first | (go_size; done) | (simp; done) | (simp; omega))).trans (by first | assumption | (go_cell; done) | (go_simp; done) | (simp; done))); (try have zf1 : w3.frozen? ⟨w.heap.size, 1, none⟩ = false := (hbY.frozen (p := ⟨w.heap.size, 1, none⟩) (by first | (go_size; done) | (simp; done) | (simp; omega))).trans (by first | assumption | (go_cell; done) | (go_simp; done) | (simp; done))); (try have zs := cell_lt z0); (try have u0 : w3.cell? ⟨w2.heap.size, 0, none⟩ = some (.int .i64 0) := (hbY.cell (p := ⟨w2.heap.size, 0, none⟩) (by first | (go_size; done) | (simp; done) | (simp; omega))).trans (by first | assumption | (go_cell; done) | (go_simp; done) | (simp; done))); (try have uf0 : w3.frozen? ⟨w2.heap.size, 0, none⟩ = false := (hbY.frozen (p := ⟨w2.heap.size, 0, none⟩) (by first | (go_size; done) | (simp; done) | (simp; omega))).trans (by first | assumption | (go_cell; done) | (go_simp; done) | (simp; done))); (try have u1 : w3.cell? ⟨w2.heap.size, 1, none⟩ = some (.int .i64 0) := (hbY.cell (p := ⟨w2.heap.size, 1, none⟩) (by first | (go_size; done) | (simp; done) | (simp; omega))).trans (by first | assumption | (go_cell; done) | (go_simp; done) | (simp; done))); (try have uf1 : w3.frozen? ⟨w2.heap.size, 1, none⟩ = false := (hbY.frozen (p := ⟨w2.heap.size, 1, none⟩) (by first | (go_size; done) | (simp; done) | (simp; omega))).trans (by first | assumption | (go_cell; done) | (go_simp; done) | (simp; done))); (try have us := cell_lt u0); clear hbY)
        refine hK _ _ ?_
        clear hK K
        refine wpAny_seq 10 rfl (by kernel_rfl) ?_
        simp only [List.drop_succ_cons, List.drop_zero]
  rotate_left 8
  focus
    go_simp
    refine hK _ _ ?_
    clear hK K
    refine wpAny_ready (rs := [1, 4, 9]) (by kernel_rfl) (by simp) (AllReady.cons rfl (fun K hK => ?_) (AllReady.cons rfl (fun K hK => ?_) (AllReady.cons rfl (fun K hK => ?_) (AllReady.nil))))
    focus
      go_simp
      (refine Calls.mono (HC.out _ (by go_grown)) ?_; rintro e w2 ⟨rfl, hbX⟩; have hG2 : Below w.heap.size w w2 := belowTo (by go_grown) hbX; have hg2 := hG2.size; have f0 := HCs.out w2 hG2 0 (by have := HN.out; omega); have f1 := HCs.out w2 hG2 1 (by have := HN.out; omega); rw [HX.out, Nat.add_zero] at f0; rw [HY.out] at f1; have hbl2 := Nat.lt_of_lt_of_le hbb hG2.size; (try have y0 : w2.cell? ⟨w.heap.size, 0, none⟩ = some (.int .i64 0) := (hbX.cell (p := ⟨w.heap.size, 0, none⟩) (by first | (go_size; done) | (simp; done) | (simp; omega))).trans (by first | assumption | (go_cell; done) | (go_simp; done) | (simp; done))); (try have yf0 : w2.frozen? ⟨w.heap.size, 0, none⟩ = false := (hbX.frozen (p := ⟨w.heap.size, 0, none⟩) (by first | (go_size; done) | (simp; done) | (simp; omega))).trans (by first | assumption | (go_cell; done) | (go_simp; done) | (simp; done))); (try have y1 : w2.cell? ⟨w.heap.size, 1, none⟩ = some (.int .i64 0) := (hbX.cell (p := ⟨w.heap.size, 1, none⟩) (by first | (go_size; done) | (simp; done) | (simp; omega))).trans (by first | assumption | (go_cell; done) | (go_simp; done) | (simp; done))); (try have yf1 : w2.frozen? ⟨w.heap.size, 1, none⟩ = false := (hbX.frozen (p := ⟨w.heap.size, 1, none⟩) (by first | (go_size; done) | (simp; done) | (simp; omega))).trans (by first | assumption | (go_cell; done) | (go_simp; done) | (simp; done))); (try have ys := cell_lt y0); clear hbX)
      refine hK _ _ ?_
      clear hK K
      refine wpAny_ready (rs := [4, 9]) (by kernel_rfl) (by simp) (AllReady.cons rfl (fun K hK => ?_) (AllReady.cons rfl (fun K hK => ?_) (AllReady.nil)))
      focus
        go_simp
        refine hK _ _ ?_
        clear hK K
        refine wpAny_ready (rs := [8, 9]) (by kernel_rfl) (by simp) (AllReady.cons rfl (fun K hK => ?_) (AllReady.cons rfl (fun K hK => ?_) (AllReady.nil)))
        focus
          go_simp
          (refine Calls.mono (HV.out _) ?_; rintro e w3 ⟨rfl, hbY⟩; have hG3 : Below w.heap.size w w3 := belowTo (by go_grown) hbY; (try have z0 : w3.cell? ⟨w.heap.size, 0, none⟩ = some (.int .i64 0) := (hbY.cell (p := ⟨w.heap.size, 0, none⟩) (by first | (go_size; done) | (simp; done) | (simp; omega))).trans (by first | assumption | (go_cell; done) | (go_simp; done) | (simp; done))); (try have zf0 : w3.frozen? ⟨w.heap.size, 0, none⟩ = false := (hbY.frozen (p := ⟨w.heap.size, 0, none⟩) (by first | (go_size; done) | (simp; done) | (simp; omega))).trans (by first | assumption | (go_cell; done) | (go_simp; done) | (simp; done))); (try have z1 : w3.cell? ⟨w.heap.size, 1, none⟩ = some (.int .i64 0) := (hbY.cell (p := ⟨w.heap.size, 1, none⟩) (by first | (go_size; done) | (simp; done) | (simp; omega))).trans (by first | assumption | (go_cell; done) | (go_simp; done) | (simp; done))); (try have zf1 : w3.frozen? ⟨w.heap.size, 1, none⟩ = false := (hbY.frozen (p := ⟨w.heap.size, 1, none⟩) (by first | (go_size; done) | (simp; done) | (simp; omega))).trans (by first | assumption | (go_cell; done) | (go_simp; done) | (simp; done))); (try have zs := cell_lt z0); (try have u0 : w3.cell? ⟨w2.heap.size, 0, none⟩ = some (.int .i64 0) := (hbY.cell (p := ⟨w2.heap.size, 0, none⟩) (by first | (go_size; done) | (simp; done) | (simp; omega))).trans (by first | assumption | (go_cell; done) | (go_simp; done) | (simp; done))); (try have uf0 : w3.frozen? ⟨w2.heap.size, 0, none⟩ = false := (hbY.frozen (p := ⟨w2.heap.size, 0, none⟩) (by first | (go_size; done) | (simp; done) | (simp; omega))).trans (by first | assumption | (go_cell; done) | (go_simp; done) | (simp; done))); (try have u1 : w3.cell? ⟨w2.heap.size, 1, none⟩ = some (.int .i64 0) := (hbY.cell (p := ⟨w2.heap.size, 1, none⟩) (by first | (go_size; done) | (simp; done) | (simp; omega))).trans (by first | assumption | (go_cell; done) | (go_simp; done) | (simp; done))); (try have uf1 : w3.frozen? ⟨w2.heap.size, 1, none⟩ = false := (hbY.frozen (p := ⟨w2.heap.size, 1, none⟩) (by first | (go_size; done) | (simp; done) | (simp; omega))).trans (by first | assumption | (go_cell; done) | (go_simp; done) | (simp; done))); (try have us := cell_lt u0); clear hbY)
          refine hK _ _ ?_
          clear hK K
          refine wpAny_ready (rs := [9]) (by kernel_rfl) (by simp) (AllReady.cons rfl (fun K hK => ?_) (AllReady.nil))
          go_simp
          refine hK _ _ ?_
          clear hK K
          refine wpAny_seq 10 rfl (by kernel_rfl) ?_
          simp only [List.drop_succ_cons, List.drop_zero]
        rotate_left 1
        focus
          go_simp
          refine hK _ _ ?_
          clear hK K
          refine wpAny_ready (rs := [8]) (by kernel_rfl) (by simp) (AllReady.cons rfl (fun K hK => ?_) (AllReady.nil))
          go_simp
          (refine Calls.mono (HV.out _) ?_; rintro e w3 ⟨rfl, hbY⟩; have hG3 : Below w.heap.size w w3 := belowTo (by go_grown) hbY; (try have z0 : w3.cell? ⟨w.heap.size, 0, none⟩ = some (.int .i64 0) := (hbY.cell (p := ⟨w.heap.size, 0, none⟩) (by first | (go_size; done) | (simp; done) | (simp; omega))).trans (by first | assumption | (go_cell; done) | (go_simp; done) | (simp; done))); (try have zf0 : w3.frozen? ⟨w.heap.size, 0, none⟩ = false := (hbY.frozen (p := ⟨w.heap.size, 0, none⟩) (by first | (go_size; done) | (simp; done) | (simp; omega))).trans (by first | assumption | (go_cell; done) | (go_simp; done) | (simp; done))); (try have z1 : w3.cell? ⟨w.heap.size, 1, none⟩ = some (.int .i64 0) := (hbY.cell (p := ⟨w.heap.size, 1, none⟩) (by first | (go_size; done) | (simp; done) | (simp; omega))).trans (by first | assumption | (go_cell; done) | (go_simp; done) | (simp; done))); (try have zf1 : w3.frozen? ⟨w.heap.size, 1, none⟩ = false := (hbY.frozen (p := ⟨w.heap.size, 1, none⟩) (by first | (go_size; done) | (simp; done) | (simp; omega))).trans (by first | assumption | (go_cell; done) | (go_simp; done) | (simp; done))); (try have zs := cell_lt z0); (try have u0 : w3.cell? ⟨w2.heap.size, 0, none⟩ = some (.int .i64 0) := (hbY.cell (p := ⟨w2.heap.size, 0, none⟩) (by first | (go_size; done) | (simp; done) | (simp; omega))).trans (by first | assumption | (go_cell; done) | (go_simp; done) | (simp; done))); (try have uf0 : w3.frozen? ⟨w2.heap.size, 0, none⟩ = false := (hbY.frozen (p := ⟨w2.heap.size, 0, none⟩) (by first | (go_size; done) | (simp; done) | (simp; omega))).trans (by first | assumption | (go_cell; done) | (go_simp; done) | (simp; done))); (try have u1 : w3.cell? ⟨w2.heap.size, 1, none⟩ = some (.int .i64 0) := (hbY.cell (p := ⟨w2.heap.size, 1, none⟩) (by first | (go_size; done) | (simp; done) | (simp; omega))).trans (by first | assumption | (go_cell; done) | (go_simp; done) | (simp; done))); (try have uf1 : w3.frozen? ⟨w2.heap.size, 1, none⟩ = false := (hbY.frozen (p := ⟨w2.heap.size, 1, none⟩) (by first | (go_size; done) | (simp; done) | (simp; omega))).trans (by first | assumption | (go_cell; done) | (go_simp; done) | (simp; done))); (try have us := cell_lt u0); clear hbY)
          refine hK _ _ ?_
          clear hK K
          refine wpAny_seq 10 rfl (by kernel_rfl) ?_
          simp only [List.drop_succ_cons, List.drop_zero]
      rotate_left 2
      focus
        go_simp
        refine hK _ _ ?_
        clear hK K
        refine wpAny_ready (rs := [4]) (by kernel_rfl) (by simp) (AllReady.cons rfl (fun K hK => ?_) (AllReady.nil))
        go_simp
        refine hK _ _ ?_
        clear hK K
        refine wpAny_ready (rs := [8]) (by kernel_rfl) (by simp) (AllReady.cons rfl (fun K hK => ?_) (AllReady.nil))
        go_simp
        (refine Calls.mono (HV.out _) ?_; rintro e w3 ⟨rfl, hbY⟩; have hG3 : Below w.heap.size w w3 := belowTo (by go_grown) hbY; (try have z0 : w3.cell? ⟨w.heap.size, 0, none⟩ = some (.int .i64 0) := (hbY.cell (p := ⟨w.heap.size, 0, none⟩) (by first | (go_size; done) | (simp; done) | (simp; omega))).trans (by first | assumption | (go_cell; done) | (go_simp; done) | (simp; done))); (try have zf0 : w3.frozen? ⟨w.heap.size, 0, none⟩ = false := (hbY.frozen (p := ⟨w.heap.size, 0, none⟩) (by first | (go_size; done) | (simp; done) | (simp; omega))).trans (by first | assumption | (go_cell; done) | (go_simp; done) | (simp; done))); (try have z1 : w3.cell? ⟨w.heap.size, 1, none⟩ = some (.int .i64 0) := (hbY.cell (p := ⟨w.heap.size, 1, none⟩) (by first | (go_size; done) | (simp; done) | (simp; omega))).trans (by first | assumption | (go_cell; done) | (go_simp; done) | (simp; done))); (try have zf1 : w3.frozen? ⟨w.heap.size, 1, none⟩ = false := (hbY.frozen (p := ⟨w.heap.size, 1, none⟩) (by first | (go_size; done) | (simp; done) | (simp; omega))).trans (by first | assumption | (go_cell; done) | (go_simp; done) | (simp; done))); (try have zs := cell_lt z0); (try have u0 : w3.cell? ⟨w2.heap.size, 0, none⟩ = some (.int .i64 0) := (hbY.cell (p := ⟨w2.heap.size, 0, none⟩) (by first | (go_size; done) | (simp; done) | (simp; omega))).trans (by first | assumption | (go_cell; done) | (go_simp; done) | (simp; done))); (try have uf0 : w3.frozen? ⟨w2.heap.size, 0, none⟩ = false := (hbY.frozen (p := ⟨w2.heap.size, 0, none⟩) (by first | (go_size; done) | (simp; done) | (simp; omega))).trans (by first | assumption | (go_cell; done) | (go_simp; done) | (simp; done))); (try have u1 : w3.cell? ⟨w2.heap.size, 1, none⟩ = some (.int .i64 0) := (hbY.cell (p := ⟨w2.heap.size, 1, none⟩) (by first | (go_size; done) | (simp; done) | (simp; omega))).trans (by first | assumption | (go_cell; done) | (go_simp; done) | (simp; done))); (try have uf1 : w3.frozen? ⟨w2.heap.size, 1, none⟩ = false := (hbY.frozen (p := ⟨w2.heap.size, 1, none⟩) (by first | (go_size; done) | (simp; done) | (simp; omega))).trans (by first | assumption | (go_cell; done) | (go_simp; done) | (simp; done))); (try have us := cell_lt u0); clear hbY)
        refine hK _ _ ?_
        clear hK K
        refine wpAny_seq 10 rfl (by kernel_rfl) ?_
        simp only [List.drop_succ_cons, List.drop_zero]
    rotate_left 3
    focus
      go_simp
      refine hK _ _ ?_
      clear hK K
      refine wpAny_ready (rs := [1, 9]) (by kernel_rfl) (by simp) (AllReady.cons rfl (fun K hK => ?_) (AllReady.cons rfl (fun K hK => ?_) (AllReady.nil)))
      focus
        go_simp
        (refine Calls.mono (HC.out _ (by go_grown)) ?_; rintro e w2 ⟨rfl, hbX⟩; have hG2 : Below w.heap.size w w2 := belowTo (by go_grown) hbX; have hg2 := hG2.size; have f0 := HCs.out w2 hG2 0 (by have := HN.out; omega); have f1 := HCs.out w2 hG2 1 (by have := HN.out; omega); rw [HX.out, Nat.add_zero] at f0; rw [HY.out] at f1; have hbl2 := Nat.lt_of_lt_of_le hbb hG2.size; (try have y0 : w2.cell? ⟨w.heap.size, 0, none⟩ = some (.int .i64 0) := (hbX.cell (p := ⟨w.heap.size, 0, none⟩) (by first | (go_size; done) | (simp; done) | (simp; omega))).trans (by first | assumption | (go_cell; done) | (go_simp; done) | (simp; done))); (try have yf0 : w2.frozen? ⟨w.heap.size, 0, none⟩ = false := (hbX.frozen (p := ⟨w.heap.size, 0, none⟩) (by first | (go_size; done) | (simp; done) | (simp; omega))).trans (by first | assumption | (go_cell; done) | (go_simp; done) | (simp; done))); (try have y1 : w2.cell? ⟨w.heap.size, 1, none⟩ = some (.int .i64 0) := (hbX.cell (p := ⟨w.heap.size, 1, none⟩) (by first | (go_size; done) | (simp; done) | (simp; omega))).trans (by first | assumption | (go_cell; done) | (go_simp; done) | (simp; done))); (try have yf1 : w2.frozen? ⟨w.heap.size, 1, none⟩ = false := (hbX.frozen (p := ⟨w.heap.size, 1, none⟩) (by first | (go_size; done) | (simp; done) | (simp; omega))).trans (by first | assumption | (go_cell; done) | (go_simp; done) | (simp; done))); (try have ys := cell_lt y0); clear hbX)
        refine hK _ _ ?_
        clear hK K
        refine wpAny_ready (rs := [8, 9]) (by kernel_rfl) (by simp) (AllReady.cons rfl (fun K hK => ?_) (AllReady.cons rfl (fun K hK => ?_) (AllReady.nil)))
        focus
          go_simp
          (refine Calls.mono (HV.out _) ?_; rintro e w3 ⟨rfl, hbY⟩; have hG3 : Below w.heap.size w w3 := belowTo (by go_grown) hbY; (try have z0 : w3.cell? ⟨w.heap.size, 0, none⟩ = some (.int .i64 0) := (hbY.cell (p := ⟨w.heap.size, 0, none⟩) (by first | (go_size; done) | (simp; done) | (simp; omega))).trans (by first | assumption | (go_cell; done) | (go_simp; done) | (simp; done))); (try have zf0 : w3.frozen? ⟨w.heap.size, 0, none⟩ = false := (hbY.frozen (p := ⟨w.heap.size, 0, none⟩) (by first | (go_size; done) | (simp; done) | (simp; omega))).trans (by first | assumption | (go_cell; done) | (go_simp; done) | (simp; done))); (try have z1 : w3.cell? ⟨w.heap.size, 1, none⟩ = some (.int .i64 0) := (hbY.cell (p := ⟨w.heap.size, 1, none⟩) (by first | (go_size; done) | (simp; done) | (simp; omega))).trans (by first | assumption | (go_cell; done) | (go_simp; done) | (simp; done))); (try have zf1 : w3.frozen? ⟨w.heap.size, 1, none⟩ = false := (hbY.frozen (p := ⟨w.heap.size, 1, none⟩) (by first | (go_size; done) | (simp; done) | (simp; omega))).trans (by first | assumption | (go_cell; done) | (go_simp; done) | (simp; done))); (try have zs := cell_lt z0); (try have u0 : w3.cell? ⟨w2.heap.size, 0, none⟩ = some (.int .i64 0) := (hbY.cell (p := ⟨w2.heap.size, 0, none⟩) (by first | (go_size; done) | (simp; done) | (simp; omega))).trans (by first | assumption | (go_cell; done) | (go_simp; done) | (simp; done))); (try have uf0 : w3.frozen? ⟨w2.heap.size, 0, none⟩ = false := (hbY.frozen (p := ⟨w2.heap.size, 0, none⟩) (by first | (go_size; done) | (simp; done) | (simp; omega))).trans (by first | assumption | (go_cell; done) | (go_simp; done) | (simp; done))); (try have u1 : w3.cell? ⟨w2.heap.size, 1, none⟩ = some (.int .i64 0) := (hbY.cell (p := ⟨w2.heap.size, 1, none⟩) (by first | (go_size; done) | (simp; done) | (simp; omega))).trans (by first | assumption | (go_cell; done) | (go_simp; done) | (simp; done))); (try have uf1 : w3.frozen? ⟨w2.heap.size, 1, none⟩ = false := (hbY.frozen (p := ⟨w2.heap.size, 1, none⟩) (by first | (go_size; done) | (simp; done) | (simp; omega))).trans (by first | assumption | (go_cell; done) | (go_simp; done) | (simp; done))); (try have us := cell_lt u0); clear hbY)
          refine hK _ _ ?_
          clear hK K
          refine wpAny_ready (rs := [9]) (by kernel_rfl) (by simp) (AllReady.cons rfl (fun K hK => ?_) (AllReady.nil))
          go_simp
          refine hK _ _ ?_
          clear hK K
          refine wpAny_seq 10 rfl (by kernel_rfl) ?_
          simp only [List.drop_succ_cons, List.drop_zero]
        rotate_left 1
        focus
          go_simp
          refine hK _ _ ?_
          clear hK K
          refine wpAny_ready (rs := [8]) (by kernel_rfl) (by simp) (AllReady.cons rfl (fun K hK => ?_) (AllReady.nil))
          go_simp
          (refine Calls.mono (HV.out _) ?_; rintro e w3 ⟨rfl, hbY⟩; have hG3 : Below w.heap.size w w3 := belowTo (by go_grown) hbY; (try have z0 : w3.cell? ⟨w.heap.size, 0, none⟩ = some (.int .i64 0) := (hbY.cell (p := ⟨w.heap.size, 0, none⟩) (by first | (go_size; done) | (simp; done) | (simp; omega))).trans (by first | assumption | (go_cell; done) | (go_simp; done) | (simp; done))); (try have zf0 : w3.frozen? ⟨w.heap.size, 0, none⟩ = false := (hbY.frozen (p := ⟨w.heap.size, 0, none⟩) (by first | (go_size; done) | (simp; done) | (simp; omega))).trans (by first | assumption | (go_cell; done) | (go_simp; done) | (simp; done))); (try have z1 : w3.cell? ⟨w.heap.size, 1, none⟩ = some (.int .i64 0) := (hbY.cell (p := ⟨w.heap.size, 1, none⟩) (by first | (go_size; done) | (simp; done) | (simp; omega))).trans (by first | assumption | (go_cell; done) | (go_simp; done) | (simp; done))); (try have zf1 : w3.frozen? ⟨w.heap.size, 1, none⟩ = false := (hbY.frozen (p := ⟨w.heap.size, 1, none⟩) (by first | (go_size; done) | (simp; done) | (simp; omega))).trans (by first | assumption | (go_cell; done) | (go_simp; done) | (simp; done))); (try have zs := cell_lt z0); (try have u0 : w3.cell? ⟨w2.heap.size, 0, none⟩ = some (.int .i64 0) := (hbY.cell (p := ⟨w2.heap.size, 0, none⟩) (by first | (go_size; done) | (simp; done) | (simp; omega))).trans (by first | assumption | (go_cell; done) | (go_simp; done) | (simp; done))); (try have uf0 : w3.frozen? ⟨w2.heap.size, 0, none⟩ = false := (hbY.frozen (p := ⟨w2.heap.size, 0, none⟩) (by first | (go_size; done) | (simp; done) | (simp; omega))).trans (by first | assumption | (go_cell; done) | (go_simp; done) | (simp; done))); (try have u1 : w3.cell? ⟨w2.heap.size, 1, none⟩ = some (.int .i64 0) := (hbY.cell (p := ⟨w2.heap.size, 1, none⟩) (by first | (go_size; done) | (simp; done) | (simp; omega))).trans (by first | assumption | (go_cell; done) | (go_simp; done) | (simp; done))); (try have uf1 : w3.frozen? ⟨w2.heap.size, 1, none⟩ = false := (hbY.frozen (p := ⟨w2.heap.size, 1, none⟩) (by first | (go_size; done) | (simp; done) | (simp; omega))).trans (by first | assumption | (go_cell; done) | (go_simp; done) | (simp; done))); (try have us := cell_lt u0); clear hbY)
          refine hK _ _ ?_
          clear hK K
          refine wpAny_seq 10 rfl (by kernel_rfl) ?_
          simp only [List.drop_succ_cons, List.drop_zero]
      rotate_left 2
      focus
        go_simp
        refine hK _ _ ?_
        clear hK K
        refine wpAny_ready (rs := [1]) (by kernel_rfl) (by simp) (AllReady.cons rfl (fun K hK => ?_) (AllReady.nil))
        go_simp
        (refine Calls.mono (HC.out _ (by go_grown)) ?_; rintro e w2 ⟨rfl, hbX⟩; have hG2 : Below w.heap.size w w2 := belowTo (by go_grown) hbX; have hg2 := hG2.size; have f0 := HCs.out w2 hG2 0 (by have := HN.out; omega); have f1 := HCs.out w2 hG2 1 (by have := HN.out; omega); rw [HX.out, Nat.add_zero] at f0; rw [HY.out] at f1; have hbl2 := Nat.lt_of_lt_of_le hbb hG2.size; (try have y0 : w2.cell? ⟨w.heap.size, 0, none⟩ = some (.int .i64 0) := (hbX.cell (p := ⟨w.heap.size, 0, none⟩) (by first | (go_size; done) | (simp; done) | (simp; omega))).trans (by first | assumption | (go_cell; done) | (go_simp; done) | (simp; done))); (try have yf0 : w2.frozen? ⟨w.heap.size, 0, none⟩ = false := (hbX.frozen (p := ⟨w.heap.size, 0, none⟩) (by first | (go_size; done) | (simp; done) | (simp; omega))).trans (by first | assumption | (go_cell; done) | (go_simp; done) | (simp; done))); (try have y1 : w2.cell? ⟨w.heap.size, 1, none⟩ = some (.int .i64 0) := (hbX.cell (p := ⟨w.heap.size, 1, none⟩) (by first | (go_size; done) | (simp; done) | (simp; omega))).trans (by first | assumption | (go_cell; done) | (go_simp; done) | (simp; done))); (try have yf1 : w2.frozen? ⟨w.heap.size, 1, none⟩ = false := (hbX.frozen (p := ⟨w.heap.size, 1, none⟩) (by first | (go_size; done) | (simp; done) | (simp; omega))).trans (by first | assumption | (go_cell; done) | (go_simp; done) | (simp; done))); (try have ys := cell_lt y0); clear hbX)
        refine hK _ _ ?_
        clear hK K
        refine wpAny_ready (rs := [8]) (by kernel_rfl) (by simp) (AllReady.cons rfl (fun K hK => ?_) (AllReady.nil))
        go_simp
        (refine Calls.mono (HV.out _) ?_; rintro e w3 ⟨rfl, hbY⟩; have hG3 : Below w.heap.size w w3 := belowTo (by go_grown) hbY; (try have z0 : w3.cell? ⟨w.heap.size, 0, none⟩ = some (.int .i64 0) := (hbY.cell (p := ⟨w.heap.size, 0, none⟩) (by first | (go_size; done) | (simp; done) | (simp; omega))).trans (by first | assumption | (go_cell; done) | (go_simp; done) | (simp; done))); (try have zf0 : w3.frozen? ⟨w.heap.size, 0, none⟩ = false := (hbY.frozen (p := ⟨w.heap.size, 0, none⟩) (by first | (go_size; done) | (simp; done) | (simp; omega))).trans (by first | assumption | (go_cell; done) | (go_simp; done) | (simp; done))); (try have z1 : w3.cell? ⟨w.heap.size, 1, none⟩ = some (.int .i64 0) := (hbY.cell (p := ⟨w.heap.size, 1, none⟩) (by first | (go_size; done) | (simp; done) | (simp; omega))).trans (by first | assumption | (go_cell; done) | (go_simp; done) | (simp; done))); (try have zf1 : w3.frozen? ⟨w.heap.size, 1, none⟩ = false := (hbY.frozen (p := ⟨w.heap.size, 1, none⟩) (by first | (go_size; done) | (simp; done) | (simp; omega))).trans (by first | assumption | (go_cell; done) | (go_simp; done) | (simp; done))); (try have zs := cell_lt z0); (try have u0 : w3.cell? ⟨w2.heap.size, 0, none⟩ = some (.int .i64 0) := (hbY.cell (p := ⟨w2.heap.size, 0, none⟩) (by first | (go_size; done) | (simp; done) | (simp; omega))).trans (by first | assumption | (go_cell; done) | (go_simp; done) | (simp; done))); (try have uf0 : w3.frozen? ⟨w2.heap.size, 0, none⟩ = false := (hbY.frozen (p := ⟨w2.heap.size, 0, none⟩) (by first | (go_size; done) | (simp; done) | (simp; omega))).trans (by first | assumption | (go_cell; done) | (go_simp; done) | (simp; done))); (try have u1 : w3.cell? ⟨w2.heap.size, 1, none⟩ = some (.int .i64 0) := (hbY.cell (p := ⟨w2.heap.size, 1, none⟩) (by first | (go_size; done) | (simp; done) | (simp; omega))).trans (by first | assumption | (go_cell; done) | (go_simp; done) | (simp; done))); (try have uf1 : w3.frozen? ⟨w2.heap.size, 1, none⟩ = false := (hbY.frozen (p := ⟨w2.heap.size, 1, none⟩) (by first | (go_size; done) | (simp; done) | (simp; omega))).trans (by first | assumption | (go_cell; done) | (go_simp; done) | (simp; done))); (try have us := cell_lt u0); clear hbY)
        refine hK _ _ ?_
        clear hK K
        refine wpAny_seq 10 rfl (by kernel_rfl) ?_
        simp only [List.drop_succ_cons, List.drop_zero]
    rotate_left 3
    focus
      go_simp
      refine hK _ _ ?_
      clear hK K
      refine wpAny_ready (rs := [1, 4]) (by kernel_rfl) (by simp) (AllReady.cons rfl (fun K hK => ?_) (AllReady.cons rfl (fun K hK => ?_) (AllReady.nil)))
      focus
        go_simp
        (refine Calls.mono (HC.out _ (by go_grown)) ?_; rintro e w2 ⟨rfl, hbX⟩; have hG2 : Below w.heap.size w w2 := belowTo (by go_grown) hbX; have hg2 := hG2.size; have f0 := HCs.out w2 hG2 0 (by have := HN.out; omega); have f1 := HCs.out w2 hG2 1 (by have := HN.out; omega); rw [HX.out, Nat.add_zero] at f0; rw [HY.out] at f1; have hbl2 := Nat.lt_of_lt_of_le hbb hG2.size; (try have y0 : w2.cell? ⟨w.heap.size, 0, none⟩ = some (.int .i64 0) := (hbX.cell (p := ⟨w.heap.size, 0, none⟩) (by first | (go_size; done) | (simp; done) | (simp; omega))).trans (by first | assumption | (go_cell; done) | (go_simp; done) | (simp; done))); (try have yf0 : w2.frozen? ⟨w.heap.size, 0, none⟩ = false := (hbX.frozen (p := ⟨w.heap.size, 0, none⟩) (by first | (go_size; done) | (simp; done) | (simp; omega))).trans (by first | assumption | (go_cell; done) | (go_simp; done) | (simp; done))); (try have y1 : w2.cell? ⟨w.heap.size, 1, none⟩ = some (.int .i64 0) := (hbX.cell (p := ⟨w.heap.size, 1, none⟩) (by first | (go_size; done) | (simp; done) | (simp; omega))).trans (by first | assumption | (go_cell; done) | (go_simp; done) | (simp; done))); (try have yf1 : w2.frozen? ⟨w.heap.size, 1, none⟩ = false := (hbX.frozen (p := ⟨w.heap.size, 1, none⟩) (by first | (go_size; done) | (simp; done) | (simp; omega))).trans (by first | assumption | (go_cell; done) | (go_simp; done) | (simp; done))); (try have ys := cell_lt y0); clear hbX)
        refine hK _ _ ?_
        clear hK K
        refine wpAny_ready (rs := [4]) (by kernel_rfl) (by simp) (AllReady.cons rfl (fun K hK => ?_) (AllReady.nil))
        go_simp
        refine hK _ _ ?_
        clear hK K
        refine wpAny_ready (rs := [8]) (by kernel_rfl) (by simp) (AllReady.cons rfl (fun K hK => ?_) (AllReady.nil))
        go_simp
        (refine Calls.mono (HV.out _) ?_; rintro e w3 ⟨rfl, hbY⟩; have hG3 : Below w.heap.size w w3 := belowTo (by go_grown) hbY; (try have z0 : w3.cell? ⟨w.heap.size, 0, none⟩ = some (.int .i64 0) := (hbY.cell (p := ⟨w.heap.size, 0, none⟩) (by first | (go_size; done) | (simp; done) | (simp; omega))).trans (by first | assumption | (go_cell; done) | (go_simp; done) | (simp; done))); (try have zf0 : w3.frozen? ⟨w.heap.size, 0, none⟩ = false := (hbY.frozen (p := ⟨w.heap.size, 0, none⟩) (by first | (go_size; done) | (simp; done) | (simp; omega))).trans (by first | assumption | (go_cell; done) | (go_simp; done) | (simp; done))); (try have z1 : w3.cell? ⟨w.heap.size, 1, none⟩ = some (.int .i64 0) := (hbY.cell (p := ⟨w.heap.size, 1, none⟩) (by first | (go_size; done) | (simp; done) | (simp; omega))).trans (by first | assumption | (go_cell; done) | (go_simp; done) | (simp; done))); (try have zf1 : w3.frozen? ⟨w.heap.size, 1, none⟩ = false := (hbY.frozen (p := ⟨w.heap.size, 1, none⟩) (by first | (go_size; done) | (simp; done) | (simp; omega))).trans (by first | assumption | (go_cell; done) | (go_simp; done) | (simp; done))); (try have zs := cell_lt z0); (try have u0 : w3.cell? ⟨w2.heap.size, 0, none⟩ = some (.int .i64 0) := (hbY.cell (p := ⟨w2.heap.size, 0, none⟩) (by first | (go_size; done) | (simp; done) | (simp; omega))).trans (by first | assumption | (go_cell; done) | (go_simp; done) | (simp; done))); (try have uf0 : w3.frozen? ⟨w2.heap.size, 0, none⟩ = false := (hbY.frozen (p := ⟨w2.heap.size, 0, none⟩) (by first | (go_size; done) | (simp; done) | (simp; omega))).trans (by first | assumption | (go_cell; done) | (go_simp; done) | (simp; done))); (try have u1 : w3.cell? ⟨w2.heap.size, 1, none⟩ = some (.int .i64 0) := (hbY.cell (p := ⟨w2.heap.size, 1, none⟩) (by first | (go_size; done) | (simp; done) | (simp; omega))).trans (by first | assumption | (go_cell; done) | (go_simp; done) | (simp; done))); (try have uf1 : w3.frozen? ⟨w2.heap.size, 1, none⟩ = false := (hbY.frozen (p := ⟨w2.heap.size, 1, none⟩) (by first | (go_size; done) | (simp; done) | (simp; omega))).trans (by first | assumption | (go_cell; done) | (go_simp; done) | (simp; done))); (try have us := cell_lt u0); clear hbY)
        refine hK _ _ ?_
        clear hK K
        refine wpAny_seq 10 rfl (by kernel_rfl) ?_
        simp only [List.drop_succ_cons, List.drop_zero]
      rotate_left 1
      focus
        go_simp
        refine hK _ _ ?_
        clear hK K
        refine wpAny_ready (rs := [1]) (by kernel_rfl) (by simp) (AllReady.cons rfl (fun K hK => ?_) (AllReady.nil))
        go_simp
        (refine Calls.mono (HC.out _ (by go_grown)) ?_; rintro e w2 ⟨rfl, hbX⟩; have hG2 : Below w.heap.size w w2 := belowTo (by go_grown) hbX; have hg2 := hG2.size; have f0 := HCs.out w2 hG2 0 (by have := HN.out; omega); have f1 := HCs.out w2 hG2 1 (by have := HN.out; omega); rw [HX.out, Nat.add_zero] at f0; rw [HY.out] at f1; have hbl2 := Nat.lt_of_lt_of_le hbb hG2.size; (try have y0 : w2.cell? ⟨w.heap.size, 0, none⟩ = some (.int .i64 0) := (hbX.cell (p := ⟨w.heap.size, 0, none⟩) (by first | (go_size; done) | (simp; done) | (simp; omega))).trans (by first | assumption | (go_cell; done) | (go_simp; done) | (simp; done))); (try have yf0 : w2.frozen? ⟨w.heap.size, 0, none⟩ = false := (hbX.frozen (p := ⟨w.heap.size, 0, none⟩) (by first | (go_size; done) | (simp; done) | (simp; omega))).trans (by first | assumption | (go_cell; done) | (go_simp; done) | (simp; done))); (try have y1 : w2.cell? ⟨w.heap.size, 1, none⟩ = some (.int .i64 0) := (hbX.cell (p := ⟨w.heap.size, 1, none⟩) (by first | (go_size; done) | (simp; done) | (simp; omega))).trans (by first | assumption | (go_cell; done) | (go_simp; done) | (simp; done))); (try have yf1 : w2.frozen? ⟨w.heap.size, 1, none⟩ = false := (hbX.frozen (p := ⟨w.heap.size, 1, none⟩) (by first | (go_size; done) | (simp; done) | (simp; omega))).trans (by first | assumption | (go_cell; done) | (go_simp; done) | (simp; done))); (try have ys := cell_lt y0); clear hbX)
        refine hK _ _ ?_
        clear hK K
        refine wpAny_ready (rs := [8]) (by kernel_rfl) (by simp) (AllReady.cons rfl (fun K hK => ?_) (AllReady.nil))
        go_simp
        (refine Calls.mono (HV.out _) ?_; rintro e w3 ⟨rfl, hbY⟩; have hG3 : Below w.heap.size w w3 := belowTo (by go_grown) hbY; (try have z0 : w3.cell? ⟨w.heap.size, 0, none⟩ = some (.int .i64 0) := (hbY.cell (p := ⟨w.heap.size, 0, none⟩) (by first | (go_size; done) | (simp; done) | (simp; omega))).trans (by first | assumption | (go_cell; done) | (go_simp; done) | (simp; done))); (try have zf0 : w3.frozen? ⟨w.heap.size, 0, none⟩ = false := (hbY.frozen (p := ⟨w.heap.size, 0, none⟩) (by first | (go_size; done) | (simp; done) | (simp; omega))).trans (by first | assumption | (go_cell; done) | (go_simp; done) | (simp; done))); (try have z1 : w3.cell? ⟨w.heap.size, 1, none⟩ = some (.int .i64 0) := (hbY.cell (p := ⟨w.heap.size, 1, none⟩) (by first | (go_size; done) | (simp; done) | (simp; omega))).trans (by first | assumption | (go_cell; done) | (go_simp; done) | (simp; done))); (try have zf1 : w3.frozen? ⟨w.heap.size, 1, none⟩ = false := (hbY.frozen (p := ⟨w.heap.size, 1, none⟩) (by first | (go_size; done) | (simp; done) | (simp; omega))).trans (by first | assumption | (go_cell; done) | (go_simp; done) | (simp; done))); (try have zs := cell_lt z0); (try have u0 : w3.cell? ⟨w2.heap.size, 0, none⟩ = some (.int .i64 0) := (hbY.cell (p := ⟨w2.heap.size, 0, none⟩) (by first | (go_size; done) | (simp; done) | (simp; omega))).trans (by first | assumption | (go_cell; done) | (go_simp; done) | (simp; done))); (try have uf0 : w3.frozen? ⟨w2.heap.size, 0, none⟩ = false := (hbY.frozen (p := ⟨w2.heap.size, 0, none⟩) (by first | (go_size; done) | (simp; done) | (simp; omega))).trans (by first | assumption | (go_cell; done) | (go_simp; done) | (simp; done))); (try have u1 : w3.cell? ⟨w2.heap.size, 1, none⟩ = some (.int .i64 0) := (hbY.cell (p := ⟨w2.heap.size, 1, none⟩) (by first | (go_size; done) | (simp; done) | (simp; omega))).trans (by first | assumption | (go_cell; done) | (go_simp; done) | (simp; done))); (try have uf1 : w3.frozen? ⟨w2.heap.size, 1, none⟩ = false := (hbY.frozen (p := ⟨w2.heap.size, 1, none⟩) (by first | (go_size; done) | (simp; done) | (simp; omega))).trans (by first | assumption | (go_cell; done) | (go_simp; done) | (simp; done))); (try have us := cell_lt u0); clear hbY)
        refine hK _ _ ?_
        clear hK K
        refine wpAny_seq 10 rfl (by kernel_rfl) ?_
        simp only [List.drop_succ_cons, List.drop_zero]
  rotate_left 8
  focus
    go_simp
    refine hK _ _ ?_
    clear hK K
    refine wpAny_ready (rs := [1, 4, 7]) (by kernel_rfl) (by simp) (AllReady.cons rfl (fun K hK => ?_) (AllReady.cons rfl (fun K hK => ?_) (AllReady.cons rfl (fun K hK => ?_) (AllReady.nil))))
    focus
      go_simp
      (refine Calls.mono (HC.out _ (by go_grown)) ?_; rintro e w2 ⟨rfl, hbX⟩; have hG2 : Below w.heap.size w w2 := belowTo (by go_grown) hbX; have hg2 := hG2.size; have f0 := HCs.out w2 hG2 0 (by have := HN.out; omega); have f1 := HCs.out w2 hG2 1 (by have := HN.out; omega); rw [HX.out, Nat.add_zero] at f0; rw [HY.out] at f1; have hbl2 := Nat.lt_of_lt_of_le hbb hG2.size; (try have y0 : w2.cell? ⟨w.heap.size, 0, none⟩ = some (.int .i64 0) := (hbX.cell (p := ⟨w.heap.size, 0, none⟩) (by first | (go_size; done) | (simp; done) | (simp; omega))).trans (by first | assumption | (go_cell; done) | (go_simp; done) | (simp; done))); (try have yf0 : w2.frozen? ⟨w.heap.size, 0, none⟩ = false := (hbX.frozen (p := ⟨w.heap.size, 0, none⟩) (by first | (go_size; done) | (simp; done) | (simp; omega))).trans (by first | assumption | (go_cell; done) | (go_simp; done) | (simp; done))); (try have y1 : w2.cell? ⟨w.heap.size, 1, none⟩ = some (.int .i64 0) := (hbX.cell (p := ⟨w.heap.size, 1, none⟩) (by first | (go_size; done) | (simp; done) | (simp; omega))).trans (by first | assumption | (go_cell; done) | (go_simp; done) | (simp; done))); (try have yf1 : w2.frozen? ⟨w.heap.size, 1, none⟩ = false := (hbX.frozen (p := ⟨w.heap.size, 1, none⟩) (by first | (go_size; done) | (simp; done) | (simp; omega))).trans (by first | assumption | (go_cell; done) | (go_simp; done) | (simp; done))); (try have ys := cell_lt y0); clear hbX)
      refine hK _ _ ?_
      clear hK K
      refine wpAny_ready (rs := [4, 7]) (by kernel_rfl) (by simp) (AllReady.cons rfl (fun K hK => ?_) (AllReady.cons rfl (fun K hK => ?_) (AllReady.nil)))
      focus
        go_simp
        refine hK _ _ ?_
        clear hK K
        refine wpAny_ready (rs := [7]) (by kernel_rfl) (by simp) (AllReady.cons rfl (fun K hK => ?_) (AllReady.nil))
        go_simp
        refine hK _ _ ?_
        clear hK K
        refine wpAny_ready (rs := [8]) (by kernel_rfl) (by simp) (AllReady.cons rfl (fun K hK => ?_) (AllReady.nil))
        go_simp
        (refine Calls.mono (HV.out _) ?_; rintro e w3 ⟨rfl, hbY⟩; have hG3 : Below w.heap.size w w3 := belowTo (by go_grown) hbY; (try have z0 : w3.cell? ⟨w.heap.size, 0, none⟩ = some (.int .i64 0) := (hbY.cell (p := ⟨w.heap.size, 0, none⟩) (by first | (go_size; done) | (simp; done) | (simp; omega))).trans (by first | assumption | (go_cell; done) | (go_simp; done) | (simp; done))); (try have zf0 : w3.frozen? ⟨w.heap.size, 0, none⟩ = false := (hbY.frozen (p := ⟨w.heap.size, 0, none⟩) (by first | (go_size; done) | (simp; done) | (simp; omega))).trans (by first | assumption | (go_cell; done) | (go_simp; done) | (simp; done))); (try have z1 : w3.cell? ⟨w.heap.size, 1, none⟩ = some (.int .i64 0) := (hbY.cell (p := ⟨w.heap.size, 1, none⟩) (by first | (go_size; done) | (simp; done) | (simp; omega))).trans (by first | assumption | (go_cell; done) | (go_simp; done) | (simp; done))); (try have zf1 : w3.frozen? ⟨w.heap.size, 1, none⟩ = false := (hbY.frozen (p := ⟨w.heap.size, 1, none⟩) (by first | (go_size; done) | (simp; done) | (simp; omega))).trans (by first | assumption | (go_cell; done) | (go_simp; done) | (simp; done))); (try have zs := cell_lt z0); (try have u0 : w3.cell? ⟨w2.heap.size, 0, none⟩ = some (.int .i64 0) := (hbY.cell (p := ⟨w2.heap.size, 0, none⟩) (by first | (go_size; done) | (simp; done) | (simp; omega))).trans (by first | assumption | (go_cell; done) | (go_simp; done) | (simp; done))); (try have uf0 : w3.frozen? ⟨w2.heap.size, 0, none⟩ = false := (hbY.frozen (p := ⟨w2.heap.size, 0, none⟩) (by first | (go_size; done) | (simp; done) | (simp; omega))).trans (by first | assumption | (go_cell; done) | (go_simp; done) | (simp; done))); (try have u1 : w3.cell? ⟨w2.heap.size, 1, none⟩ = some (.int .i64 0) := (hbY.cell (p := ⟨w2.heap.size, 1, none⟩) (by first | (go_size; done) | (simp; done) | (simp; omega))).trans (by first | assumption | (go_cell; done) | (go_simp; done) | (simp; done))); (try have uf1 : w3.frozen? ⟨w2.heap.size, 1, none⟩ = false := (hbY.frozen (p := ⟨w2.heap.size, 1, none⟩) (by first | (go_size; done) | (simp; done) | (simp; omega))).trans (by first | assumption | (go_cell; done) | (go_simp; done) | (simp; done))); (try have us := cell_lt u0); clear hbY)
        refine hK _ _ ?_
        clear hK K
        refine wpAny_seq 10 rfl (by kernel_rfl) ?_
        simp only [List.drop_succ_cons, List.drop_zero]
      rotate_left 1
      focus
        go_simp
        refine hK _ _ ?_
        clear hK K
        refine wpAny_ready (rs := [4]) (by kernel_rfl) (by simp) (AllReady.cons rfl (fun K hK => ?_) (AllReady.nil))
        go_simp
        refine hK _ _ ?_
        clear hK K
        refine wpAny_ready (rs := [8]) (by kernel_rfl) (by simp) (AllReady.cons rfl (fun K hK => ?_) (AllReady.nil))
        go_simp
        (refine Calls.mono (HV.out _) ?_; rintro e w3 ⟨rfl, hbY⟩; have hG3 : Below w.heap.size w w3 := belowTo (by go_grown) hbY; (try have z0 : w3.cell? ⟨w.heap.size, 0, none⟩ = some (.int .i64 0) := (hbY.cell (p := ⟨w.heap.size, 0, none⟩) (by first | (go_size; done) | (simp; done) | (simp; omega))).trans (by first | assumption | (go_cell; done) | (go_simp; done) | (simp; done))); (try have zf0 : w3.frozen? ⟨w.heap.size, 0, none⟩ = false := (hbY.frozen (p := ⟨w.heap.size, 0, none⟩) (by first | (go_size; done) | (simp; done) | (simp; omega))).trans (by first | assumption | (go_cell; done) | (go_simp; done) | (simp; done))); (try have z1 : w3.cell? ⟨w.heap.size, 1, none⟩ = some (.int .i64 0) := (hbY.cell (p := ⟨w.heap.size, 1, none⟩) (by first | (go_size; done) | (simp; done) | (simp; omega))).trans (by first | assumption | (go_cell; done) | (go_simp; done) | (simp; done))); (try have zf1 : w3.frozen? ⟨w.heap.size, 1, none⟩ = false := (hbY.frozen (p := ⟨w.heap.size, 1, none⟩) (by first | (go_size; done) | (simp; done) | (simp; omega))).trans (by first | assumption | (go_cell; done) | (go_simp; done) | (simp; done))); (try have zs := cell_lt z0); (try have u0 : w3.cell? ⟨w2.heap.size, 0, none⟩ = some (.int .i64 0) := (hbY.cell (p := ⟨w2.heap.size, 0, none⟩) (by first | (go_size; done) | (simp; done) | (simp; omega))).trans (by first | assumption | (go_cell; done) | (go_simp; done) | (simp; done))); (try have uf0 : w3.frozen? ⟨w2.heap.size, 0, none⟩ = false := (hbY.frozen (p := ⟨w2.heap.size, 0, none⟩) (by first | (go_size; done) | (simp; done) | (simp; omega))).trans (by first | assumption | (go_cell; done) | (go_simp; done) | (simp; done))); (try have u1 : w3.cell? ⟨w2.heap.size, 1, none⟩ = some (.int .i64 0) := (hbY.cell (p := ⟨w2.heap.size, 1, none⟩) (by first | (go_size; done) | (simp; done) | (simp; omega))).trans (by first | assumption | (go_cell; done) | (go_simp; done) | (simp; done))); (try have uf1 : w3.frozen? ⟨w2.heap.size, 1, none⟩ = false := (hbY.frozen (p := ⟨w2.heap.size, 1, none⟩) (by first | (go_size; done) | (simp; done) | (simp; omega))).trans (by first | assumption | (go_cell; done) | (go_simp; done) | (simp; done))); (try have us := cell_lt u0); clear hbY)
        refine hK _ _ ?_
        clear hK K
        refine wpAny_seq 10 rfl (by kernel_rfl) ?_
        simp only [List.drop_succ_cons, List.drop_zero]
    rotate_left 2
    focus
      go_simp
      refine hK _ _ ?_
      clear hK K
      refine wpAny_ready (rs := [1, 7]) (by kernel_rfl) (by simp) (AllReady.cons rfl (fun K hK => ?_) (AllReady.cons rfl (fun K hK => ?_) (AllReady.nil)))
      focus
        go_simp
        (refine Calls.mono (HC.out _ (by go_grown)) ?_; rintro e w2 ⟨rfl, hbX⟩; have hG2 : Below w.heap.size w w2 := belowTo (by go_grown) hbX; have hg2 := hG2.size; have f0 := HCs.out w2 hG2 0 (by have := HN.out; omega); have f1 := HCs.out w2 hG2 1 (by have := HN.out; omega); rw [HX.out, Nat.add_zero] at f0; rw [HY.out] at f1; have hbl2 := Nat.lt_of_lt_of_le hbb hG2.size; (try have y0 : w2.cell? ⟨w.heap.size, 0, none⟩ = some (.int .i64 0) := (hbX.cell (p := ⟨w.heap.size, 0, none⟩) (by first | (go_size; done) | (simp; done) | (simp; omega))).trans (by first | assumption | (go_cell; done) | (go_simp; done) | (simp; done))); (try have yf0 : w2.frozen? ⟨w.heap.size, 0, none⟩ = false := (hbX.frozen (p := ⟨w.heap.size, 0, none⟩) (by first | (go_size; done) | (simp; done) | (simp; omega))).trans (by first | assumption | (go_cell; done) | (go_simp; done) | (simp; done))); (try have y1 : w2.cell? ⟨w.heap.size, 1, none⟩ = some (.int .i64 0) := (hbX.cell (p := ⟨w.heap.size, 1, none⟩) (by first | (go_size; done) | (simp; done) | (simp; omega))).trans (by first | assumption | (go_cell; done) | (go_simp; done) | (simp; done))); (try have yf1 : w2.frozen? ⟨w.heap.size, 1, none⟩ = false := (hbX.frozen (p := ⟨w.heap.size, 1, none⟩) (by first | (go_size; done) | (simp; done) | (simp; omega))).trans (by first | assumption | (go_cell; done) | (go_simp; done) | (simp; done))); (try have ys := cell_lt y0); clear hbX)
        refine hK _ _ ?_
        clear hK K
        refine wpAny_ready (rs := [7]) (by kernel_rfl) (by simp) (AllReady.cons rfl (fun K hK => ?_) (AllReady.nil))
        go_simp
        refine hK _ _ ?_
        clear hK K
        refine wpAny_ready (rs := [8]) (by kernel_rfl) (by simp) (AllReady.cons rfl (fun K hK => ?_) (AllReady.nil))
        go_simp
        (refine Calls.mono (HV.out _) ?_; rintro e w3 ⟨rfl, hbY⟩; have hG3 : Below w.heap.size w w3 := belowTo (by go_grown) hbY; (try have z0 : w3.cell? ⟨w.heap.size, 0, none⟩ = some (.int .i64 0) := (hbY.cell (p := ⟨w.heap.size, 0, none⟩) (by first | (go_size; done) | (simp; done) | (simp; omega))).trans (by first | assumption | (go_cell; done) | (go_simp; done) | (simp; done))); (try have zf0 : w3.frozen? ⟨w.heap.size, 0, none⟩ = false := (hbY.frozen (p := ⟨w.heap.size, 0, none⟩) (by first | (go_size; done) | (simp; done) | (simp; omega))).trans (by first | assumption | (go_cell; done) | (go_simp; done) | (simp; done))); (try have z1 : w3.cell? ⟨w.heap.size, 1, none⟩ = some (.int .i64 0) := (hbY.cell (p := ⟨w.heap.size, 1, none⟩) (by first | (go_size; done) | (simp; done) | (simp; omega))).trans (by first | assumption | (go_cell; done) | (go_simp; done) | (simp; done))); (try have zf1 : w3.frozen? ⟨w.heap.size, 1, none⟩ = false := (hbY.frozen (p := ⟨w.heap.size, 1, none⟩) (by first | (go_size; done) | (simp; done) | (simp; omega))).trans (by first | assumption | (go_cell; done) | (go_simp; done) | (simp; done))); (try have zs := cell_lt z0); (try have u0 : w3.cell? ⟨w2.heap.size, 0, none⟩ = some (.int .i64 0) := (hbY.cell (p := ⟨w2.heap.size, 0, none⟩) (by first | (go_size; done) | (simp; done) | (simp; omega))).trans (by first | assumption | (go_cell; done) | (go_simp; done) | (simp; done))); (try have uf0 : w3.frozen? ⟨w2.heap.size, 0, none⟩ = false := (hbY.frozen (p := ⟨w2.heap.size, 0, none⟩) (by first | (go_size; done) | (simp; done) | (simp; omega))).trans (by first | assumption | (go_cell; done) | (go_simp; done) | (simp; done))); (try have u1 : w3.cell? ⟨w2.heap.size, 1, none⟩ = some (.int .i64 0) := (hbY.cell (p := ⟨w2.heap.size, 1, none⟩) (by first | (go_size; done) | (simp; done) | (simp; omega))).trans (by first | assumption | (go_cell; done) | (go_simp; done) | (simp; done))); (try have uf1 : w3.frozen? ⟨w2.heap.size, 1, none⟩ = false := (hbY.frozen (p := ⟨w2.heap.size, 1, none⟩) (by first | (go_size; done) | (simp; done) | (simp; omega))).trans (by first | assumption | (go_cell; done) | (go_simp; done) | (simp; done))); (try have us := cell_lt u0); clear hbY)
        refine hK _ _ ?_
        clear hK K
        refine wpAny_seq 10 rfl (by kernel_rfl) ?_
        simp only [List.drop_succ_cons, List.drop_zero]
      rotate_left 1
      focus
        go_simp
        refine hK _ _ ?_
        clear hK K
        refine wpAny_ready (rs := [1]) (by kernel_rfl) (by simp) (AllReady.cons rfl (fun K hK => ?_) (AllReady.nil))
        go_simp
        (refine Calls.mono (HC.out _ (by go_grown)) ?_; rintro e w2 ⟨rfl, hbX⟩; have hG2 : Below w.heap.size w w2 := belowTo (by go_grown) hbX; have hg2 := hG2.size; have f0 := HCs.out w2 hG2 0 (by have := HN.out; omega); have f1 := HCs.out w2 hG2 1 (by have := HN.out; omega); rw [HX.out, Nat.add_zero] at f0; rw [HY.out] at f1; have hbl2 := Nat.lt_of_lt_of_le hbb hG2.size; (try have y0 : w2.cell? ⟨w.heap.size, 0, none⟩ = some (.int .i64 0) := (hbX.cell (p := ⟨w.heap.size, 0, none⟩) (by first | (go_size; done) | (simp; done) | (simp; omega))).trans (by first | assumption | (go_cell; done) | (go_simp; done) | (simp; done))); (try have yf0 : w2.frozen? ⟨w.heap.size, 0, none⟩ = false := (hbX.frozen (p := ⟨w.heap.size, 0, none⟩) (by first | (go_size; done) | (simp; done) | (simp; omega))).trans (by first | assumption | (go_cell; done) | (go_simp; done) | (simp; done))); (try have y1 : w2.cell? ⟨w.heap.size, 1, none⟩ = some (.int .i64 0) := (hbX.cell (p := ⟨w.heap.size, 1, none⟩) (by first | (go_size; done) | (simp; done) | (simp; omega))).trans (by first | assumption | (go_cell; done) | (go_simp; done) | (simp; done))); (try have yf1 : w2.frozen? ⟨w.heap.size, 1, none⟩ = false := (hbX.frozen (p := ⟨w.heap.size, 1, none⟩) (by first | (go_size; done) | (simp; done) | (simp; omega))).trans (by first | assumption | (go_cell; done) | (go_simp; done) | (simp; done))); (try have ys := cell_lt y0); clear hbX)
        refine hK _ _ ?_
        clear hK K
        refine wpAny_ready (rs := [8]) (by kernel_rfl) (by simp) (AllReady.cons rfl (fun K hK => ?_) (AllReady.nil))
        go_simp
        (refine Calls.mono (HV.out _) ?_; rintro e w3 ⟨rfl, hbY⟩; have hG3 : Below w.heap.size w w3 := belowTo (by go_grown) hbY; (try have z0 : w3.cell? ⟨w.heap.size, 0, none⟩ = some (.int .i64 0) := (hbY.cell (p := ⟨w.heap.size, 0, none⟩) (by first | (go_size; done) | (simp; done) | (simp; omega))).trans (by first | assumption | (go_cell; done) | (go_simp; done) | (simp; done))); (try have zf0 : w3.frozen? ⟨w.heap.size, 0, none⟩ = false := (hbY.frozen (p := ⟨w.heap.size, 0, none⟩) (by first | (go_size; done) | (simp; done) | (simp; omega))).trans (by first | assumption | (go_cell; done) | (go_simp; done) | (simp; done))); (try have z1 : w3.cell? ⟨w.heap.size, 1, none⟩ = some (.int .i64 0) := (hbY.cell (p := ⟨w.heap.size, 1, none⟩) (by first | (go_size; done) | (simp; done) | (simp; omega))).trans (by first | assumption | (go_cell; done) | (go_simp; done) | (simp; done))); (try have zf1 : w3.frozen? ⟨w.heap.size, 1, none⟩ = false := (hbY.frozen (p := ⟨w.heap.size, 1, none⟩) (by first | (go_size; done) | (simp; done) | (simp; omega))).trans (by first | assumption | (go_cell; done) | (go_simp; done) | (simp; done))); (try have zs := cell_lt z0); (try have u0 : w3.cell? ⟨w2.heap.size, 0, none⟩ = some (.int .i64 0) := (hbY.cell (p := ⟨w2.heap.size, 0, none⟩) (by first | (go_size; done) | (simp; done) | (simp; omega))).trans (by first | assumption | (go_cell; done) | (go_simp; done) | (simp; done))); (try have uf0 : w3.frozen? ⟨w2.heap.size, 0, none⟩ = false := (hbY.frozen (p := ⟨w2.heap.size, 0, none⟩) (by first | (go_size; done) | (simp; done) | (simp; omega))).trans (by first | assumption | (go_cell; done) | (go_simp; done) | (simp; done))); (try have u1 : w3.cell? ⟨w2.heap.size, 1, none⟩ = some (.int .i64 0) := (hbY.cell (p := ⟨w2.heap.size, 1, none⟩) (by first | (go_size; done) | (simp; done) | (simp; omega))).trans (by first | assumption | (go_cell; done) | (go_simp; done) | (simp; done))); (try have uf1 : w3.frozen? ⟨w2.heap.size, 1, none⟩ = false := (hbY.frozen (p := ⟨w2.heap.size, 1, none⟩) (by first | (go_size; done) | (simp; done) | (simp; omega))).trans (by first | assumption | (go_cell; done) | (go_simp; done) | (simp; done))); (try have us := cell_lt u0); clear hbY)
        refine hK _ _ ?_
        clear hK K
        refine wpAny_seq 10 rfl (by kernel_rfl) ?_
        simp only [List.drop_succ_cons, List.drop_zero]
    rotate_left 2
    focus
      go_simp
      refine hK _ _ ?_
      clear hK K
      refine wpAny_ready (rs := [1, 4]) (by kernel_rfl) (by simp) (AllReady.cons rfl (fun K hK => ?_) (AllReady.cons rfl (fun K hK => ?_) (AllReady.nil)))
      focus
        go_simp
        (refine Calls.mono (HC.out _ (by go_grown)) ?_; rintro e w2 ⟨rfl, hbX⟩; have hG2 : Below w.heap.size w w2 := belowTo (by go_grown) hbX; have hg2 := hG2.size; have f0 := HCs.out w2 hG2 0 (by have := HN.out; omega); have f1 := HCs.out w2 hG2 1 (by have := HN.out; omega); rw [HX.out, Nat.add_zero] at f0; rw [HY.out] at f1; have hbl2 := Nat.lt_of_lt_of_le hbb hG2.size; (try have y0 : w2.cell? ⟨w.heap.size, 0, none⟩ = some (.int .i64 0) := (hbX.cell (p := ⟨w.heap.size, 0, none⟩) (by first | (go_size; done) | (simp; done) | (simp; omega))).trans (by first | assumption | (go_cell; done) | (go_simp; done) | (simp; done))); (try have yf0 : w2.frozen? ⟨w.heap.size, 0, none⟩ = false := (hbX.frozen (p := ⟨w.heap.size, 0, none⟩) (by first | (go_size; done) | (simp; done) | (simp; omega))).trans (by first | assumption | (go_cell; done) | (go_simp; done) | (simp; done))); (try have y1 : w2.cell? ⟨w.heap.size, 1, none⟩ = some (.int .i64 0) := (hbX.cell (p := ⟨w.heap.size, 1, none⟩) (by first | (go_size; done) | (simp; done) | (simp; omega))).trans (by first | assumption | (go_cell; done) | (go_simp; done) | (simp; done))); (try have yf1 : w2.frozen? ⟨w.heap.size, 1, none⟩ = false := (hbX.frozen (p := ⟨w.heap.size, 1, none⟩) (by first | (go_size; done) | (simp; done) | (simp; omega))).trans (by first | assumption | (go_cell; done) | (go_simp; done) | (simp; done))); (try have ys := cell_lt y0); clear hbX)
        refine hK _ _ ?_
        clear hK K
        refine wpAny_ready (rs := [4]) (by kernel_rfl) (by simp) (AllReady.cons rfl (fun K hK => ?_) (AllReady.nil))
        go_simp
        refine hK _ _ ?_
        clear hK K
        refine wpAny_ready (rs := [8]) (by kernel_rfl) (by simp) (AllReady.cons rfl (fun K hK => ?_) (AllReady.nil))
        go_simp
        (refine Calls.mono (HV.out _) ?_; rintro e w3 ⟨rfl, hbY⟩; have hG3 : Below w.heap.size w w3 := belowTo (by go_grown) hbY; (try have z0 : w3.cell? ⟨w.heap.size, 0, none⟩ = some (.int .i64 0) := (hbY.cell (p := ⟨w.heap.size, 0, none⟩) (by first | (go_size; done) | (simp; done) | (simp; omega))).trans (by first | assumption | (go_cell; done) | (go_simp; done) | (simp; done))); (try have zf0 : w3.frozen? ⟨w.heap.size, 0, none⟩ = false := (hbY.frozen (p := ⟨w.heap.size, 0, none⟩) (by first | (go_size; done) | (simp; done) | (simp; omega))).trans (by first | assumption | (go_cell; done) | (go_simp; done) | (simp; done))); (try have z1 : w3.cell? ⟨w.heap.size, 1, none⟩ = some (.int .i64 0) := (hbY.cell (p := ⟨w.heap.size, 1, none⟩) (by first | (go_size; done) | (simp; done) | (simp; omega))).trans (by first | assumption | (go_cell; done) | (go_simp; done) | (simp; done))); (try have zf1 : w3.frozen? ⟨w.heap.size, 1, none⟩ = false := (hbY.frozen (p := ⟨w.heap.size, 1, none⟩) (by first | (go_size; done) | (simp; done) | (simp; omega))).trans (by first | assumption | (go_cell; done) | (go_simp; done) | (simp; done))); (try have zs := cell_lt z0); (try have u0 : w3.cell? ⟨w2.heap.size, 0, none⟩ = some (.int .i64 0) := (hbY.cell (p := ⟨w2.heap.size, 0, none⟩) (by first | (go_size; done) | (simp; done) | (simp; omega))).trans (by first | assumption | (go_cell; done) | (go_simp; done) | (simp; done))); (try have uf0 : w3.frozen? ⟨w2.heap.size, 0, none⟩ = false := (hbY.frozen (p := ⟨w2.heap.size, 0, none⟩) (by first | (go_size; done) | (simp; done) | (simp; omega))).trans (by first | assumption | (go_cell; done) | (go_simp; done) | (simp; done))); (try have u1 : w3.cell? ⟨w2.heap.size, 1, none⟩ = some (.int .i64 0) := (hbY.cell (p := ⟨w2.heap.size, 1, none⟩) (by first | (go_size; done) | (simp; done) | (simp; omega))).trans (by first | assumption | (go_cell; done) | (go_simp; done) | (simp; done))); (try have uf1 : w3.frozen? ⟨w2.heap.size, 1, none⟩ = false := (hbY.frozen (p := ⟨w2.heap.size, 1, none⟩) (by first | (go_size; done) | (simp; done) | (simp; omega))).trans (by first | assumption | (go_cell; done) | (go_simp; done) | (simp; done))); (try have us := cell_lt u0); clear hbY)
        refine hK _ _ ?_
        clear hK K
        refine wpAny_seq 10 rfl (by kernel_rfl) ?_
        simp only [List.drop_succ_cons, List.drop_zero]
      rotate_left 1
      focus
        go_simp
        refine hK _ _ ?_
        clear hK K
        refine wpAny_ready (rs := [1]) (by kernel_rfl) (by simp) (AllReady.cons rfl (fun K hK => ?_) (AllReady.nil))
        go_simp
        (refine Calls.mono (HC.out _ (by go_grown)) ?_; rintro e w2 ⟨rfl, hbX⟩; have hG2 : Below w.heap.size w w2 := belowTo (by go_grown) hbX; have hg2 := hG2.size; have f0 := HCs.out w2 hG2 0 (by have := HN.out; omega); have f1 := HCs.out w2 hG2 1 (by have := HN.out; omega); rw [HX.out, Nat.add_zero] at f0; rw [HY.out] at f1; have hbl2 := Nat.lt_of_lt_of_le hbb hG2.size; (try have y0 : w2.cell? ⟨w.heap.size, 0, none⟩ = some (.int .i64 0) := (hbX.cell (p := ⟨w.heap.size, 0, none⟩) (by first | (go_size; done) | (simp; done) | (simp; omega))).trans (by first | assumption | (go_cell; done) | (go_simp; done) | (simp; done))); (try have yf0 : w2.frozen? ⟨w.heap.size, 0, none⟩ = false := (hbX.frozen (p := ⟨w.heap.size, 0, none⟩) (by first | (go_size; done) | (simp; done) | (simp; omega))).trans (by first | assumption | (go_cell; done) | (go_simp; done) | (simp; done))); (try have y1 : w2.cell? ⟨w.heap.size, 1, none⟩ = some (.int .i64 0) := (hbX.cell (p := ⟨w.heap.size, 1, none⟩) (by first | (go_size; done) | (simp; done) | (simp; omega))).trans (by first | assumption | (go_cell; done) | (go_simp; done) | (simp; done))); (try have yf1 : w2.frozen? ⟨w.heap.size, 1, none⟩ = false := (hbX.frozen (p := ⟨w.heap.size, 1, none⟩) (by first | (go_size; done) | (simp; done) | (simp; omega))).trans (by first | assumption | (go_cell; done) | (go_simp; done) | (simp; done))); (try have ys := cell_lt y0); clear hbX)
        refine hK _ _ ?_
        clear hK K
        refine wpAny_ready (rs := [8]) (by kernel_rfl) (by simp) (AllReady.cons rfl (fun K hK => ?_) (AllReady.nil))
        go_simp
        (refine Calls.mono (HV.out _) ?_; rintro e w3 ⟨rfl, hbY⟩; have hG3 : Below w.heap.size w w3 := belowTo (by go_grown) hbY; (try have z0 : w3.cell? ⟨w.heap.size, 0, none⟩ = some (.int .i64 0) := (hbY.cell (p := ⟨w.heap.size, 0, none⟩) (by first | (go_size; done) | (simp; done) | (simp; omega))).trans (by first | assumption | (go_cell; done) | (go_simp; done) | (simp; done))); (try have zf0 : w3.frozen? ⟨w.heap.size, 0, none⟩ = false := (hbY.frozen (p := ⟨w.heap.size, 0, none⟩) (by first | (go_size; done) | (simp; done) | (simp; omega))).trans (by first | assumption | (go_cell; done) | (go_simp; done) | (simp; done))); (try have z1 : w3.cell? ⟨w.heap.size, 1, none⟩ = some (.int .i64 0) := (hbY.cell (p := ⟨w.heap.size, 1, none⟩) (by first | (go_size; done) | (simp; done) | (simp; omega))).trans (by first | assumption | (go_cell; done) | (go_simp; done) | (simp; done))); (try have zf1 : w3.frozen? ⟨w.heap.size, 1, none⟩ = false := (hbY.frozen (p := ⟨w.heap.size, 1, none⟩) (by first | (go_size; done) | (simp; done) | (simp; omega))).trans (by first | assumption | (go_cell; done) | (go_simp; done) | (simp; done))); (try have zs := cell_lt z0); (try have u0 : w3.cell? ⟨w2.heap.size, 0, none⟩ = some (.int .i64 0) := (hbY.cell (p := ⟨w2.heap.size, 0, none⟩) (by first | (go_size; done) | (simp; done) | (simp; omega))).trans (by first | assumption | (go_cell; done) | (go_simp; done) | (simp; done))); (try have uf0 : w3.frozen? ⟨w2.heap.size, 0, none⟩ = false := (hbY.frozen (p := ⟨w2.heap.size, 0, none⟩) (by first | (go_size; done) | (simp; done) | (simp; omega))).trans (by first | assumption | (go_cell; done) | (go_simp; done) | (simp; done))); (try have u1 : w3.cell? ⟨w2.heap.size, 1, none⟩ = some (.int .i64 0) := (hbY.cell (p := ⟨w2.heap.size, 1, none⟩) (by first | (go_size; done) | (simp; done) | (simp; omega))).trans (by first | assumption | (go_cell; done) | (go_simp; done) | (simp; done))); (try have uf1 : w3.frozen? ⟨w2.heap.size, 1, none⟩ = false := (hbY.frozen (p := ⟨w2.heap.size, 1, none⟩) (by first | (go_size; done) | (simp; done) | (simp; omega))).trans (by first | assumption | (go_cell; done) | (go_simp; done) | (simp; done))); (try have us := cell_lt u0); clear hbY)
        refine hK _ _ ?_
        clear hK K
        refine wpAny_seq 10 rfl (by kernel_rfl) ?_
        simp only [List.drop_succ_cons, List.drop_zero]
  all_goals
    have hsz3 := hG3.size
    go_wp2_with fail
    refine Calls.mono (HO.out _ (by go_grown)) ?_
    rintro e w4 ⟨v4, rfl, hI, hb4⟩
    have hB4 : Below w.heap.size w w4 := belowTo (by go_grown) hb4
    have hI4 := hI.lower (base' := w.heap.size) (by first | (go_size; done) | (simp; omega))
    have hR4 := hI4.reads (by have := HT.out; omega)
    clear hI hb4 hI4 hG2 hG3
    go_wp2_with fail
    refine Calls.mono (HS.out _ _ hB4 hR4) ?_
    rintro e w5 ⟨v5, rfl, hI5, hb5⟩
    have HI5 := Lib.hid (hI5.lower hB4.size)
    have hB5 := belowTo hB4 hb5
    clear hI5 hb5 hB4 hR4
    go_wp2
    go_returns
    exact ⟨_, rfl, HI5.out, hB5⟩
end Go.Proofs.YtcieihbknfeddabDoor
