/- Chapter 2: ConeMove, both sides. -/
import Derived.Test.YtjlobpccnplebaaDoorCg
namespace Go.Proofs.YtjlobpccnplebaaDoor
open Go.RowKit

set_option maxHeartbeats 2000000 in
theorem madeCone_any (a b c d : Int) (w : World) (hg : EtOk w) :
    Calls Tryd.prog 64 #[.agg #[.int .i64 (a), .int .i64 (b), .int .i64 (c), .int .i64 (d)]] w fun e w' => e = .returned (.tuple #[.agg #[.int .i64 (gate (coneB a b c d) a), .int .i64 (gate (coneB a b c d) b), .int .i64 (gate (coneB a b c d) c), .int .i64 (gate (coneB a b c d) d)], .bool (coneB a b c d)]) ∧ Below w.heap.size w w' := by
  cases h : coneB a b c d
  · go_enter Tryd.func64, Tryd.ntmps64
    go_wp2_with fail
    go_call (coneCheck_out a b c d _ h) as e w1 ⟨⟨s, rfl⟩, hb1⟩
    obtain ⟨hc1, hf1⟩ := bcell hb1; have hz1 := bsize hb1
    (go_wp2_with fail; go_call (none_hit _ _ (hg.below (belowTo (a := w) (by go_grown) hb1))) as e w2 ⟨rfl, hb2⟩); replace hb1 := belowTo hb1 hb2; clear hb2 hc1 hf1 hz1; obtain ⟨hc1, hf1⟩ := bcell hb1; have hz1 := bsize hb1
    go_wp2
    have hB := belowTo (a := w) (by go_grown) hb1; have hS := hB.size; (refine bodyPost_ret (by simp [results, Tryd.results64, go_sem, bcs hb1]; try rfl) rfl ?_); clear hb1
    exact ⟨rfl, by go_grown⟩
  · go_enter Tryd.func64, Tryd.ntmps64
    (go_wp2_with fail; go_call (coneCheck_in a b c d _ h) as e w1 ⟨rfl, hb1⟩); obtain ⟨hc1, hf1⟩ := bcell hb1; have hz1 := bsize hb1
    (go_wp2_with fail; go_call (none_nil _) as e w2 ⟨rfl, hb2⟩); replace hb1 := belowTo hb1 hb2; clear hb2 hc1 hf1 hz1; obtain ⟨hc1, hf1⟩ := bcell hb1; have hz1 := bsize hb1
    go_wp2
    have hB := belowTo (a := w) (by go_grown) hb1; have hS := hB.size; (refine bodyPost_ret (by simp [results, Tryd.results64, go_sem, bcs hb1]; try rfl) rfl ?_); clear hb1
    exact ⟨rfl, by go_grown⟩
set_option maxHeartbeats 2000000 in
theorem coneMove_any (a b c d e f g h : Int) (w : World) (hg : EtOk w) :
    Calls Tryd.prog 27 #[.agg #[.int .i64 (a), .int .i64 (b), .int .i64 (c), .int .i64 (d)], .agg #[.int .i64 (e), .int .i64 (f), .int .i64 (g), .int .i64 (h)]] w fun r w' => r = .returned (.tuple #[.agg #[.int .i64 (gate (cmvOk a b c d e f g h) (cmA a b c d e f g h)), .int .i64 (gate (cmvOk a b c d e f g h) (cmB a b c d e f g h)), .int .i64 (gate (cmvOk a b c d e f g h) (cmC a b c d e f g h)), .int .i64 (gate (cmvOk a b c d e f g h) (cmD a b c d e f g h))], .bool (cmvOk a b c d e f g h)]) ∧ Below w.heap.size w w' := by
  unfold cmvOk
  cases k : cmOk a b c d e f g h
  · go_enter Tryd.func27, Tryd.ntmps27
    go_wp2_with fail
    go_call (checkAll_cm_out a b c d e f g h _ _ k) as e1 w1 ⟨⟨s, rfl⟩, hb1⟩
    obtain ⟨hc1, hf1⟩ := bcell hb1; have hz1 := bsize hb1
    (go_wp2_with fail; go_call (none_hit _ _ (hg.below (belowTo (a := w) (by go_grown) hb1))) as e w2 ⟨rfl, hb2⟩); replace hb1 := belowTo hb1 hb2; clear hb2 hc1 hf1 hz1; obtain ⟨hc1, hf1⟩ := bcell hb1; have hz1 := bsize hb1
    go_wp2
    have hB := belowTo (a := w) (by go_grown) hb1; have hS := hB.size; (refine bodyPost_ret (by simp [results, Tryd.results27, go_sem, bcs hb1]; try rfl) rfl ?_); clear hb1
    exact ⟨rfl, by go_grown⟩
  · obtain ⟨hc, hm⟩ := cm_in k
    obtain ⟨h1, _, h2, _, _⟩ := cone_in hc
    clear k
    generalize hA : cmA a b c d e f g h = A
    generalize hBB : cmB a b c d e f g h = B
    generalize hC : cmC a b c d e f g h = C
    generalize hD : cmD a b c d e f g h = D
    have HM := Lib.hid (fun w' => coneMoveM_any a b c d e f g h w' h1 h2 hm)
    rw [hA, hBB, hC, hD] at HM
    clear hA hBB hC hD
    go_enter Tryd.func27, Tryd.ntmps27
    (go_wp2_with fail; go_call (checkAll_cm_in a b c d e f g h _ _ hc hm) as e w1 ⟨rfl, hb1⟩); obtain ⟨hc1, hf1⟩ := bcell hb1; have hz1 := bsize hb1
    (go_wp2_with fail; go_call (none_nil _) as e w2 ⟨rfl, hb2⟩); replace hb1 := belowTo hb1 hb2; clear hb2 hc1 hf1 hz1; obtain ⟨hc1, hf1⟩ := bcell hb1; have hz1 := bsize hb1
    (go_wp2_with fail; go_call (HM.out _) as e w2 ⟨rfl, hb2⟩); replace hb1 := belowTo hb1 hb2; clear hb2 hc1 hf1 hz1; obtain ⟨hc1, hf1⟩ := bcell hb1; have hz1 := bsize hb1
    (go_wp2_with fail; go_call (madeCone_any A B C D _ (hg.below (belowTo (a := w) (by go_grown) hb1))) as e w2 ⟨rfl, hb2⟩); replace hb1 := belowTo hb1 hb2; clear hb2 hc1 hf1 hz1; obtain ⟨hc1, hf1⟩ := bcell hb1; have hz1 := bsize hb1
    go_wp2
    have hB := belowTo (a := w) (by go_grown) hb1; have hS := hB.size; (refine bodyPost_ret (by simp [results, Tryd.results27, go_sem, bcs hb1]; try rfl) rfl ?_); clear hb1
    exact ⟨rfl, by go_grown⟩
theorem exch_lt {W : World} {g : Nat} (x y z u : Value) {n : Nat} (h : n < W.heap.size) : n < ((((W.setCell ⟨g, 0, none⟩ x).setCell ⟨g, 1, none⟩ y).setCell ⟨g, 2, none⟩ z).setCell ⟨g, 3, none⟩ u).heap.size := by simpa using h
theorem exch_in {W : World} {g : Nat} {a b c d : Value} (x y z u : Value) (h0 : W.cell? ⟨g, 0, none⟩ = some a) (h1 : W.cell? ⟨g, 1, none⟩ = some b) (h2 : W.cell? ⟨g, 2, none⟩ = some c) (h3 : W.cell? ⟨g, 3, none⟩ = some d) :
    ((((W.setCell ⟨g, 0, none⟩ x).setCell ⟨g, 1, none⟩ y).setCell ⟨g, 2, none⟩ z).setCell ⟨g, 3, none⟩ u).cell? ⟨g, 0, none⟩ = some x ∧ ((((W.setCell ⟨g, 0, none⟩ x).setCell ⟨g, 1, none⟩ y).setCell ⟨g, 2, none⟩ z).setCell ⟨g, 3, none⟩ u).cell? ⟨g, 1, none⟩ = some y ∧ ((((W.setCell ⟨g, 0, none⟩ x).setCell ⟨g, 1, none⟩ y).setCell ⟨g, 2, none⟩ z).setCell ⟨g, 3, none⟩ u).cell? ⟨g, 2, none⟩ = some z ∧ ((((W.setCell ⟨g, 0, none⟩ x).setCell ⟨g, 1, none⟩ y).setCell ⟨g, 2, none⟩ z).setCell ⟨g, 3, none⟩ u).cell? ⟨g, 3, none⟩ = some u := by
  refine ⟨?_, ?_, ?_, ?_⟩
  · rw [World.cell?_setCell_other _ _ _ _ (by simp), World.cell?_setCell_other _ _ _ _ (by simp), World.cell?_setCell_other _ _ _ _ (by simp)]
    exact World.cell?_setCell_same _ _ _ h0
  · rw [World.cell?_setCell_other _ _ _ _ (by simp), World.cell?_setCell_other _ _ _ _ (by simp)]
    refine World.cell?_setCell_same (u := b) _ _ _ ?_
    rw [World.cell?_setCell_other _ _ _ _ (by simp)]; exact h1
  · rw [World.cell?_setCell_other _ _ _ _ (by simp)]
    refine World.cell?_setCell_same (u := c) _ _ _ ?_
    rw [World.cell?_setCell_other _ _ _ _ (by simp), World.cell?_setCell_other _ _ _ _ (by simp)]; exact h2
  · refine World.cell?_setCell_same (u := d) _ _ _ ?_
    rw [World.cell?_setCell_other _ _ _ _ (by simp), World.cell?_setCell_other _ _ _ _ (by simp), World.cell?_setCell_other _ _ _ _ (by simp)]; exact h3
theorem exch_far {W : World} {g : Nat} (x y z u : Value) {b o : Nat} (h : g ≠ b) :
    ((((W.setCell ⟨g, 0, none⟩ x).setCell ⟨g, 1, none⟩ y).setCell ⟨g, 2, none⟩ z).setCell ⟨g, 3, none⟩ u).cell? ⟨b, o, none⟩ = W.cell? ⟨b, o, none⟩ := by
  rw [World.cell?_setCell_far _ _ _ _ h, World.cell?_setCell_far _ _ _ _ h, World.cell?_setCell_far _ _ _ _ h, World.cell?_setCell_far _ _ _ _ h]
theorem exch_fz {W : World} {g : Nat} (x y z u : Value) {b o : Nat} :
    ((((W.setCell ⟨g, 0, none⟩ x).setCell ⟨g, 1, none⟩ y).setCell ⟨g, 2, none⟩ z).setCell ⟨g, 3, none⟩ u).frozen? ⟨b, o, none⟩ = W.frozen? ⟨b, o, none⟩ := by
  simp
set_option linter.unusedSimpArgs false in
set_option maxHeartbeats 8000000 in
theorem specConeMove_neg (a b c d e f g h : Int) (w : World) (hc : coneB a b c d = true) (hm : matB e f g h = true) (hn : negM e f g h = true) (K : Bool) (hk : coneB (moveX e f c d) (moveX g h c d) (moveX e f a b) (moveX g h a b) = K) :
    Calls Tryd.prog 41 #[.agg #[.int .i64 (a), .int .i64 (b), .int .i64 (c), .int .i64 (d)], .agg #[.int .i64 (e), .int .i64 (f), .int .i64 (g), .int .i64 (h)]] w fun r w' => r = .returned (.tuple #[.agg #[.int .i64 (gate K ((moveX e f c d))), .int .i64 (gate K ((moveX g h c d))), .int .i64 (gate K ((moveX e f a b))), .int .i64 (gate K ((moveX g h a b)))], .bool K]) ∧ Below w.heap.size w w' := by
  obtain ⟨h1, _, h2, _, _⟩ := cone_in hc
  obtain ⟨⟨he, hf, hg, hh⟩, _⟩ := mat_in hm
  obtain ⟨xa, xb⟩ := vecB_true h1
  obtain ⟨xc, xd⟩ := vecB_true h2
  obtain ⟨⟨_, _⟩, _, _⟩ := det_bd he hf hg hh
  have hd : e * h - f * g < 0 := of_decide_eq_true (show decide (e * h - f * g < 0) = true from hn)
  clear h1 h2 hn
  go_enter Tryd.func41, Tryd.ntmps41
  (go_wp2_with fail; go_call (specConeIn_any a b c d _) as e w1 ⟨rfl, hb1⟩); obtain ⟨hc1, hf1⟩ := bcell hb1; have hz1 := bsize hb1
  (go_wp2_with fail; go_call (specMatIn_any e f g h _) as e w2 ⟨rfl, hb2⟩); replace hb1 := belowTo hb1 hb2; clear hb2 hc1 hf1 hz1; obtain ⟨hc1, hf1⟩ := bcell hb1; have hz1 := bsize hb1
  have hB0 : Below w.heap.size w w2 := belowTo (by go_grown) hb1
  have hs0 : w.heap.size < w2.heap.size := hz1 _ (by simp only [World.size_alloc]; omega)
  have hs1 : w.heap.size + 1 < w2.heap.size := hz1 _ (by simp only [World.size_alloc]; omega)
  have hs2 : w.heap.size + 1 + 1 < w2.heap.size := hz1 _ (by simp only [World.size_alloc]; omega)
  have c0 : w2.cell? ⟨w.heap.size, 0, none⟩ = some (.int .i64 (a)) := (hb1.cell (p := ⟨w.heap.size, 0, none⟩) (by first | assumption | (go_size; done) | (simp; omega) | (simp only [World.size_alloc]; omega))).trans (by first | assumption | (go_cell; done) | (go_simp; done) | simp [*]); have cf0 : w2.frozen? ⟨w.heap.size, 0, none⟩ = false := (hb1.frozen (p := ⟨w.heap.size, 0, none⟩) (by first | assumption | (go_size; done) | (simp; omega) | (simp only [World.size_alloc]; omega))).trans (by first | assumption | (go_cell; done) | (go_simp; done) | simp [*]); have c1 : w2.cell? ⟨w.heap.size, 1, none⟩ = some (.int .i64 (b)) := (hb1.cell (p := ⟨w.heap.size, 1, none⟩) (by first | assumption | (go_size; done) | (simp; omega) | (simp only [World.size_alloc]; omega))).trans (by first | assumption | (go_cell; done) | (go_simp; done) | simp [*]); have cf1 : w2.frozen? ⟨w.heap.size, 1, none⟩ = false := (hb1.frozen (p := ⟨w.heap.size, 1, none⟩) (by first | assumption | (go_size; done) | (simp; omega) | (simp only [World.size_alloc]; omega))).trans (by first | assumption | (go_cell; done) | (go_simp; done) | simp [*]); have c2 : w2.cell? ⟨w.heap.size, 2, none⟩ = some (.int .i64 (c)) := (hb1.cell (p := ⟨w.heap.size, 2, none⟩) (by first | assumption | (go_size; done) | (simp; omega) | (simp only [World.size_alloc]; omega))).trans (by first | assumption | (go_cell; done) | (go_simp; done) | simp [*]); have cf2 : w2.frozen? ⟨w.heap.size, 2, none⟩ = false := (hb1.frozen (p := ⟨w.heap.size, 2, none⟩) (by first | assumption | (go_size; done) | (simp; omega) | (simp only [World.size_alloc]; omega))).trans (by first | assumption | (go_cell; done) | (go_simp; done) | simp [*]); have c3 : w2.cell? ⟨w.heap.size, 3, none⟩ = some (.int .i64 (d)) := (hb1.cell (p := ⟨w.heap.size, 3, none⟩) (by first | assumption | (go_size; done) | (simp; omega) | (simp only [World.size_alloc]; omega))).trans (by first | assumption | (go_cell; done) | (go_simp; done) | simp [*]); have cf3 : w2.frozen? ⟨w.heap.size, 3, none⟩ = false := (hb1.frozen (p := ⟨w.heap.size, 3, none⟩) (by first | assumption | (go_size; done) | (simp; omega) | (simp only [World.size_alloc]; omega))).trans (by first | assumption | (go_cell; done) | (go_simp; done) | simp [*])
  have m0 : w2.cell? ⟨w.heap.size + 1, 0, none⟩ = some (.int .i64 (e)) := (hb1.cell (p := ⟨w.heap.size + 1, 0, none⟩) (by first | assumption | (go_size; done) | (simp; omega) | (simp only [World.size_alloc]; omega))).trans (by first | assumption | (go_cell; done) | (go_simp; done) | simp [*]); have mf0 : w2.frozen? ⟨w.heap.size + 1, 0, none⟩ = false := (hb1.frozen (p := ⟨w.heap.size + 1, 0, none⟩) (by first | assumption | (go_size; done) | (simp; omega) | (simp only [World.size_alloc]; omega))).trans (by first | assumption | (go_cell; done) | (go_simp; done) | simp [*]); have m1 : w2.cell? ⟨w.heap.size + 1, 1, none⟩ = some (.int .i64 (f)) := (hb1.cell (p := ⟨w.heap.size + 1, 1, none⟩) (by first | assumption | (go_size; done) | (simp; omega) | (simp only [World.size_alloc]; omega))).trans (by first | assumption | (go_cell; done) | (go_simp; done) | simp [*]); have mf1 : w2.frozen? ⟨w.heap.size + 1, 1, none⟩ = false := (hb1.frozen (p := ⟨w.heap.size + 1, 1, none⟩) (by first | assumption | (go_size; done) | (simp; omega) | (simp only [World.size_alloc]; omega))).trans (by first | assumption | (go_cell; done) | (go_simp; done) | simp [*]); have m2 : w2.cell? ⟨w.heap.size + 1, 2, none⟩ = some (.int .i64 (g)) := (hb1.cell (p := ⟨w.heap.size + 1, 2, none⟩) (by first | assumption | (go_size; done) | (simp; omega) | (simp only [World.size_alloc]; omega))).trans (by first | assumption | (go_cell; done) | (go_simp; done) | simp [*]); have mf2 : w2.frozen? ⟨w.heap.size + 1, 2, none⟩ = false := (hb1.frozen (p := ⟨w.heap.size + 1, 2, none⟩) (by first | assumption | (go_size; done) | (simp; omega) | (simp only [World.size_alloc]; omega))).trans (by first | assumption | (go_cell; done) | (go_simp; done) | simp [*]); have m3 : w2.cell? ⟨w.heap.size + 1, 3, none⟩ = some (.int .i64 (h)) := (hb1.cell (p := ⟨w.heap.size + 1, 3, none⟩) (by first | assumption | (go_size; done) | (simp; omega) | (simp only [World.size_alloc]; omega))).trans (by first | assumption | (go_cell; done) | (go_simp; done) | simp [*]); have mf3 : w2.frozen? ⟨w.heap.size + 1, 3, none⟩ = false := (hb1.frozen (p := ⟨w.heap.size + 1, 3, none⟩) (by first | assumption | (go_size; done) | (simp; omega) | (simp only [World.size_alloc]; omega))).trans (by first | assumption | (go_cell; done) | (go_simp; done) | simp [*])
  have r0 : w2.cell? ⟨w.heap.size + 1 + 1, 0, none⟩ = some (.int .i64 0) := (hb1.cell (p := ⟨w.heap.size + 1 + 1, 0, none⟩) (by simp only [World.size_alloc]; omega)).trans (by rw [World.cell?_alloc_at _ _ _ _ (by simp)]; rfl)
  have r1 : w2.cell? ⟨w.heap.size + 1 + 1, 1, none⟩ = some (.int .i64 0) := (hb1.cell (p := ⟨w.heap.size + 1 + 1, 1, none⟩) (by simp only [World.size_alloc]; omega)).trans (by rw [World.cell?_alloc_at _ _ _ _ (by simp)]; rfl)
  have r2 : w2.cell? ⟨w.heap.size + 1 + 1, 2, none⟩ = some (.int .i64 0) := (hb1.cell (p := ⟨w.heap.size + 1 + 1, 2, none⟩) (by simp only [World.size_alloc]; omega)).trans (by rw [World.cell?_alloc_at _ _ _ _ (by simp)]; rfl)
  have r3 : w2.cell? ⟨w.heap.size + 1 + 1, 3, none⟩ = some (.int .i64 0) := (hb1.cell (p := ⟨w.heap.size + 1 + 1, 3, none⟩) (by simp only [World.size_alloc]; omega)).trans (by rw [World.cell?_alloc_at _ _ _ _ (by simp)]; rfl)
  have rf0 : w2.frozen? ⟨w.heap.size + 1 + 1, 0, none⟩ = false := (hb1.frozen (p := ⟨w.heap.size + 1 + 1, 0, none⟩) (by simp only [World.size_alloc]; omega)).trans (by rw [World.frozen?_alloc_at _ _ _ _ (by simp)])
  have rf1 : w2.frozen? ⟨w.heap.size + 1 + 1, 1, none⟩ = false := (hb1.frozen (p := ⟨w.heap.size + 1 + 1, 1, none⟩) (by simp only [World.size_alloc]; omega)).trans (by rw [World.frozen?_alloc_at _ _ _ _ (by simp)])
  have rf2 : w2.frozen? ⟨w.heap.size + 1 + 1, 2, none⟩ = false := (hb1.frozen (p := ⟨w.heap.size + 1 + 1, 2, none⟩) (by simp only [World.size_alloc]; omega)).trans (by rw [World.frozen?_alloc_at _ _ _ _ (by simp)])
  have rf3 : w2.frozen? ⟨w.heap.size + 1 + 1, 3, none⟩ = false := (hb1.frozen (p := ⟨w.heap.size + 1 + 1, 3, none⟩) (by simp only [World.size_alloc]; omega)).trans (by rw [World.frozen?_alloc_at _ _ _ _ (by simp)])
  have c4 := m0
  have c5 := m1
  have c6 := m2
  have c7 := m3
  clear hc1 hf1 hz1 hb1 cf0 cf1 cf2 cf3 mf0 mf1 mf2 mf3 m0 m1 m2 m3
  obtain ⟨W0, rfl⟩ : ∃ W0, W0 = w2 := ⟨_, rfl⟩
  go_upto_region 3 with fail
  go_cut [6] (fun s6 wx => ∃ g6 : Nat, s6 = .pointer (some ⟨g6, 0, none⟩) ∧ (wx.cell? ⟨g6, 0, none⟩ = some (.int .i64 (moveX e f a b)) ∧ wx.cell? ⟨g6, 1, none⟩ = some (.int .i64 (moveX g h a b)) ∧ wx.cell? ⟨g6, 2, none⟩ = some (.int .i64 (moveX e f c d)) ∧ wx.cell? ⟨g6, 3, none⟩ = some (.int .i64 (moveX g h c d))) ∧ (wx.frozen? ⟨g6, 0, none⟩ = false ∧ wx.frozen? ⟨g6, 1, none⟩ = false ∧ wx.frozen? ⟨g6, 2, none⟩ = false ∧ wx.frozen? ⟨g6, 3, none⟩ = false) ∧ W0.heap.size ≤ g6 ∧ g6 < wx.heap.size ∧ Below W0.heap.size W0 wx)
  case first =>
    go_region_held3 (fun w' => w'.cell? ⟨w.heap.size, 0, none⟩ = some (.int .i64 (a)) ∧ w'.cell? ⟨w.heap.size, 1, none⟩ = some (.int .i64 (b)) ∧ w'.cell? ⟨w.heap.size, 2, none⟩ = some (.int .i64 (c)) ∧ w'.cell? ⟨w.heap.size, 3, none⟩ = some (.int .i64 (d)) ∧ w'.cell? ⟨w.heap.size + 1, 0, none⟩ = some (.int .i64 (e)) ∧ w'.cell? ⟨w.heap.size + 1, 1, none⟩ = some (.int .i64 (f)) ∧ w'.cell? ⟨w.heap.size + 1, 2, none⟩ = some (.int .i64 (g)) ∧ w'.cell? ⟨w.heap.size + 1, 3, none⟩ = some (.int .i64 (h)) ∧ Below W0.heap.size W0 w') ((refine (fun hS => ⟨(hS.cell (p := ⟨w.heap.size, 0, none⟩) hs0).trans c0, (hS.cell (p := ⟨w.heap.size, 1, none⟩) hs0).trans c1, (hS.cell (p := ⟨w.heap.size, 2, none⟩) hs0).trans c2, (hS.cell (p := ⟨w.heap.size, 3, none⟩) hs0).trans c3, (hS.cell (p := ⟨w.heap.size + 1, 0, none⟩) hs1).trans c4, (hS.cell (p := ⟨w.heap.size + 1, 1, none⟩) hs1).trans c5, (hS.cell (p := ⟨w.heap.size + 1, 2, none⟩) hs1).trans c6, (hS.cell (p := ⟨w.heap.size + 1, 3, none⟩) hs1).trans c7, hS⟩) (?_ : Below W0.heap.size W0 _); first | (go_grown; done))) (first | (go_at_call 74; go_call (l1Move_any _ _ _ _ _ _ _ he hf hg hh (by assumption) (by assumption)) as e w1 ⟨rfl, hb0⟩; have hT : Below W0.heap.size W0 w1 := belowTo (by go_split_ands; assumption) hb0; have hTs := hT.size; (first | have hb1 := belowTo (by assumption) hb0 | have hb1 := hb0); obtain ⟨hc1, hf1⟩ := bcell hb1; have hz1 := bsize hb1; have hbs := hb0.size; (try simp only [World.size_alloc, World.size_drew, Nat.add_one_le_iff] at hbs); (try have t1 : W0.heap.size < w1.heap.size := (by omega)); (try have t2 : ¬ W0.heap.size = w1.heap.size := (by omega)); (try have t3 : ¬ w1.heap.size = W0.heap.size := (by omega))))
    all_goals (go_wp2_with fail; go_meet)
    all_goals exact ⟨_, rfl, ⟨by first | (go_cell; done) | (simp; done) | (simp [*]; done), by first | (go_cell; done) | (simp; done) | (simp [*]; done), by first | (go_cell; done) | (simp; done) | (simp [*]; done), by first | (go_cell; done) | (simp; done) | (simp [*]; done)⟩, ⟨by first | (go_cell; done) | (simp; done) | (simp [*]; done), by first | (go_cell; done) | (simp; done) | (simp [*]; done), by first | (go_cell; done) | (simp; done) | (simp [*]; done), by first | (go_cell; done) | (simp; done) | (simp [*]; done)⟩, by first | (simp [*]; done) | omega | (simp; omega), by first | (go_size; done) | (simp [*]; done), by go_grown⟩
  case rest =>
    obtain ⟨W1, rfl⟩ : ∃ W1, W1 = wc := ⟨_, rfl⟩
    obtain ⟨g6, rfl, ⟨d0, d1, d2, d3⟩, ⟨f0, f1, f2, f3⟩, hge, hlt, hB1⟩ := hcut
    replace c4 := (hB1.cell (p := ⟨w.heap.size + 1, 0, none⟩) hs1).trans c4
    replace c5 := (hB1.cell (p := ⟨w.heap.size + 1, 1, none⟩) hs1).trans c5
    replace c6 := (hB1.cell (p := ⟨w.heap.size + 1, 2, none⟩) hs1).trans c6
    replace c7 := (hB1.cell (p := ⟨w.heap.size + 1, 3, none⟩) hs1).trans c7
    replace r0 := (hB1.cell (p := ⟨w.heap.size + 1 + 1, 0, none⟩) hs2).trans r0
    replace r1 := (hB1.cell (p := ⟨w.heap.size + 1 + 1, 1, none⟩) hs2).trans r1
    replace r2 := (hB1.cell (p := ⟨w.heap.size + 1 + 1, 2, none⟩) hs2).trans r2
    replace r3 := (hB1.cell (p := ⟨w.heap.size + 1 + 1, 3, none⟩) hs2).trans r3
    replace rf0 := (hB1.frozen (p := ⟨w.heap.size + 1 + 1, 0, none⟩) hs2).trans rf0
    replace rf1 := (hB1.frozen (p := ⟨w.heap.size + 1 + 1, 1, none⟩) hs2).trans rf1
    replace rf2 := (hB1.frozen (p := ⟨w.heap.size + 1 + 1, 2, none⟩) hs2).trans rf2
    replace rf3 := (hB1.frozen (p := ⟨w.heap.size + 1 + 1, 3, none⟩) hs2).trans rf3
    have n2 : g6 ≠ w.heap.size + 1 + 1 := by omega
    have n3 : w.heap.size + 1 + 1 ≠ g6 := by omega
    have n0 : g6 ≠ w.heap.size := by omega
    have n1 : g6 ≠ w.heap.size + 1 := by omega
    have hwg : w.heap.size ≤ g6 := by omega
    clear c0 c1 c2 c3 hge
    replace hs1 := Nat.lt_of_lt_of_le hs1 hB1.size
    replace hs2 := Nat.lt_of_lt_of_le hs2 hB1.size
    replace hB0 := belowTo hB0 hB1
    clear hB1
    go_wp2_with fail
    go_call (specConeIn_any ((moveX e f c d)) ((moveX g h c d)) ((moveX e f a b)) ((moveX g h a b)) _) as e1 w3 ⟨rfl, hb3⟩
    have E := exch_in (W := W1) (.int .i64 (moveX e f c d)) (.int .i64 (moveX g h c d)) (.int .i64 (moveX e f a b)) (.int .i64 (moveX g h a b)) d0 d1 d2 d3
    have y0 := (hb3.cell (p := ⟨g6, 0, none⟩) (exch_lt _ _ _ _ hlt)).trans E.1
    have y1 := (hb3.cell (p := ⟨g6, 1, none⟩) (exch_lt _ _ _ _ hlt)).trans E.2.1
    have y2 := (hb3.cell (p := ⟨g6, 2, none⟩) (exch_lt _ _ _ _ hlt)).trans E.2.2.1
    have y3 := (hb3.cell (p := ⟨g6, 3, none⟩) (exch_lt _ _ _ _ hlt)).trans E.2.2.2
    replace r0 := (hb3.cell (p := ⟨w.heap.size + 1 + 1, 0, none⟩) (exch_lt _ _ _ _ hs2)).trans ((exch_far _ _ _ _ n2).trans r0)
    replace r1 := (hb3.cell (p := ⟨w.heap.size + 1 + 1, 1, none⟩) (exch_lt _ _ _ _ hs2)).trans ((exch_far _ _ _ _ n2).trans r1)
    replace r2 := (hb3.cell (p := ⟨w.heap.size + 1 + 1, 2, none⟩) (exch_lt _ _ _ _ hs2)).trans ((exch_far _ _ _ _ n2).trans r2)
    replace r3 := (hb3.cell (p := ⟨w.heap.size + 1 + 1, 3, none⟩) (exch_lt _ _ _ _ hs2)).trans ((exch_far _ _ _ _ n2).trans r3)
    replace rf0 := (hb3.frozen (p := ⟨w.heap.size + 1 + 1, 0, none⟩) (exch_lt _ _ _ _ hs2)).trans ((exch_fz _ _ _ _).trans rf0)
    replace rf1 := (hb3.frozen (p := ⟨w.heap.size + 1 + 1, 1, none⟩) (exch_lt _ _ _ _ hs2)).trans ((exch_fz _ _ _ _).trans rf1)
    replace rf2 := (hb3.frozen (p := ⟨w.heap.size + 1 + 1, 2, none⟩) (exch_lt _ _ _ _ hs2)).trans ((exch_fz _ _ _ _).trans rf2)
    replace rf3 := (hb3.frozen (p := ⟨w.heap.size + 1 + 1, 3, none⟩) (exch_lt _ _ _ _ hs2)).trans ((exch_fz _ _ _ _).trans rf3)
    clear d0 d1 d2 d3 E
    have hs3 : w.heap.size + 1 + 1 < w3.heap.size := Nat.lt_of_lt_of_le (by simpa using hs2) hb3.size
    have hB3 : Below w.heap.size w w3 := belowTo (by go_grown) hb3
    clear hb3 hB0
    rw [hk]
    cases K
    all_goals go_wp2
    all_goals (refine bodyPost_ret (by simp [results, Tryd.results41, go_sem, *]; try rfl) rfl ?_)
    all_goals exact ⟨rfl, by go_grown⟩
set_option linter.unusedSimpArgs false in
set_option maxHeartbeats 8000000 in
theorem specConeMove_pos (a b c d e f g h : Int) (w : World) (hc : coneB a b c d = true) (hm : matB e f g h = true) (hn : negM e f g h = false) (K : Bool) (hk : coneB (moveX e f a b) (moveX g h a b) (moveX e f c d) (moveX g h c d) = K) :
    Calls Tryd.prog 41 #[.agg #[.int .i64 (a), .int .i64 (b), .int .i64 (c), .int .i64 (d)], .agg #[.int .i64 (e), .int .i64 (f), .int .i64 (g), .int .i64 (h)]] w fun r w' => r = .returned (.tuple #[.agg #[.int .i64 (gate K ((moveX e f a b))), .int .i64 (gate K ((moveX g h a b))), .int .i64 (gate K ((moveX e f c d))), .int .i64 (gate K ((moveX g h c d)))], .bool K]) ∧ Below w.heap.size w w' := by
  obtain ⟨h1, _, h2, _, _⟩ := cone_in hc
  obtain ⟨⟨he, hf, hg, hh⟩, _⟩ := mat_in hm
  obtain ⟨xa, xb⟩ := vecB_true h1
  obtain ⟨xc, xd⟩ := vecB_true h2
  obtain ⟨⟨_, _⟩, _, _⟩ := det_bd he hf hg hh
  have hd : 0 ≤ e * h - f * g := by have := of_decide_eq_false (show decide (e * h - f * g < 0) = false from hn); omega
  clear h1 h2 hn
  go_enter Tryd.func41, Tryd.ntmps41
  (go_wp2_with fail; go_call (specConeIn_any a b c d _) as e w1 ⟨rfl, hb1⟩); obtain ⟨hc1, hf1⟩ := bcell hb1; have hz1 := bsize hb1
  (go_wp2_with fail; go_call (specMatIn_any e f g h _) as e w2 ⟨rfl, hb2⟩); replace hb1 := belowTo hb1 hb2; clear hb2 hc1 hf1 hz1; obtain ⟨hc1, hf1⟩ := bcell hb1; have hz1 := bsize hb1
  have hB0 : Below w.heap.size w w2 := belowTo (by go_grown) hb1
  have hs0 : w.heap.size < w2.heap.size := hz1 _ (by simp only [World.size_alloc]; omega)
  have hs1 : w.heap.size + 1 < w2.heap.size := hz1 _ (by simp only [World.size_alloc]; omega)
  have hs2 : w.heap.size + 1 + 1 < w2.heap.size := hz1 _ (by simp only [World.size_alloc]; omega)
  have c0 : w2.cell? ⟨w.heap.size, 0, none⟩ = some (.int .i64 (a)) := (hb1.cell (p := ⟨w.heap.size, 0, none⟩) (by first | assumption | (go_size; done) | (simp; omega) | (simp only [World.size_alloc]; omega))).trans (by first | assumption | (go_cell; done) | (go_simp; done) | simp [*]); have cf0 : w2.frozen? ⟨w.heap.size, 0, none⟩ = false := (hb1.frozen (p := ⟨w.heap.size, 0, none⟩) (by first | assumption | (go_size; done) | (simp; omega) | (simp only [World.size_alloc]; omega))).trans (by first | assumption | (go_cell; done) | (go_simp; done) | simp [*]); have c1 : w2.cell? ⟨w.heap.size, 1, none⟩ = some (.int .i64 (b)) := (hb1.cell (p := ⟨w.heap.size, 1, none⟩) (by first | assumption | (go_size; done) | (simp; omega) | (simp only [World.size_alloc]; omega))).trans (by first | assumption | (go_cell; done) | (go_simp; done) | simp [*]); have cf1 : w2.frozen? ⟨w.heap.size, 1, none⟩ = false := (hb1.frozen (p := ⟨w.heap.size, 1, none⟩) (by first | assumption | (go_size; done) | (simp; omega) | (simp only [World.size_alloc]; omega))).trans (by first | assumption | (go_cell; done) | (go_simp; done) | simp [*]); have c2 : w2.cell? ⟨w.heap.size, 2, none⟩ = some (.int .i64 (c)) := (hb1.cell (p := ⟨w.heap.size, 2, none⟩) (by first | assumption | (go_size; done) | (simp; omega) | (simp only [World.size_alloc]; omega))).trans (by first | assumption | (go_cell; done) | (go_simp; done) | simp [*]); have cf2 : w2.frozen? ⟨w.heap.size, 2, none⟩ = false := (hb1.frozen (p := ⟨w.heap.size, 2, none⟩) (by first | assumption | (go_size; done) | (simp; omega) | (simp only [World.size_alloc]; omega))).trans (by first | assumption | (go_cell; done) | (go_simp; done) | simp [*]); have c3 : w2.cell? ⟨w.heap.size, 3, none⟩ = some (.int .i64 (d)) := (hb1.cell (p := ⟨w.heap.size, 3, none⟩) (by first | assumption | (go_size; done) | (simp; omega) | (simp only [World.size_alloc]; omega))).trans (by first | assumption | (go_cell; done) | (go_simp; done) | simp [*]); have cf3 : w2.frozen? ⟨w.heap.size, 3, none⟩ = false := (hb1.frozen (p := ⟨w.heap.size, 3, none⟩) (by first | assumption | (go_size; done) | (simp; omega) | (simp only [World.size_alloc]; omega))).trans (by first | assumption | (go_cell; done) | (go_simp; done) | simp [*])
  have m0 : w2.cell? ⟨w.heap.size + 1, 0, none⟩ = some (.int .i64 (e)) := (hb1.cell (p := ⟨w.heap.size + 1, 0, none⟩) (by first | assumption | (go_size; done) | (simp; omega) | (simp only [World.size_alloc]; omega))).trans (by first | assumption | (go_cell; done) | (go_simp; done) | simp [*]); have mf0 : w2.frozen? ⟨w.heap.size + 1, 0, none⟩ = false := (hb1.frozen (p := ⟨w.heap.size + 1, 0, none⟩) (by first | assumption | (go_size; done) | (simp; omega) | (simp only [World.size_alloc]; omega))).trans (by first | assumption | (go_cell; done) | (go_simp; done) | simp [*]); have m1 : w2.cell? ⟨w.heap.size + 1, 1, none⟩ = some (.int .i64 (f)) := (hb1.cell (p := ⟨w.heap.size + 1, 1, none⟩) (by first | assumption | (go_size; done) | (simp; omega) | (simp only [World.size_alloc]; omega))).trans (by first | assumption | (go_cell; done) | (go_simp; done) | simp [*]); have mf1 : w2.frozen? ⟨w.heap.size + 1, 1, none⟩ = false := (hb1.frozen (p := ⟨w.heap.size + 1, 1, none⟩) (by first | assumption | (go_size; done) | (simp; omega) | (simp only [World.size_alloc]; omega))).trans (by first | assumption | (go_cell; done) | (go_simp; done) | simp [*]); have m2 : w2.cell? ⟨w.heap.size + 1, 2, none⟩ = some (.int .i64 (g)) := (hb1.cell (p := ⟨w.heap.size + 1, 2, none⟩) (by first | assumption | (go_size; done) | (simp; omega) | (simp only [World.size_alloc]; omega))).trans (by first | assumption | (go_cell; done) | (go_simp; done) | simp [*]); have mf2 : w2.frozen? ⟨w.heap.size + 1, 2, none⟩ = false := (hb1.frozen (p := ⟨w.heap.size + 1, 2, none⟩) (by first | assumption | (go_size; done) | (simp; omega) | (simp only [World.size_alloc]; omega))).trans (by first | assumption | (go_cell; done) | (go_simp; done) | simp [*]); have m3 : w2.cell? ⟨w.heap.size + 1, 3, none⟩ = some (.int .i64 (h)) := (hb1.cell (p := ⟨w.heap.size + 1, 3, none⟩) (by first | assumption | (go_size; done) | (simp; omega) | (simp only [World.size_alloc]; omega))).trans (by first | assumption | (go_cell; done) | (go_simp; done) | simp [*]); have mf3 : w2.frozen? ⟨w.heap.size + 1, 3, none⟩ = false := (hb1.frozen (p := ⟨w.heap.size + 1, 3, none⟩) (by first | assumption | (go_size; done) | (simp; omega) | (simp only [World.size_alloc]; omega))).trans (by first | assumption | (go_cell; done) | (go_simp; done) | simp [*])
  have r0 : w2.cell? ⟨w.heap.size + 1 + 1, 0, none⟩ = some (.int .i64 0) := (hb1.cell (p := ⟨w.heap.size + 1 + 1, 0, none⟩) (by simp only [World.size_alloc]; omega)).trans (by rw [World.cell?_alloc_at _ _ _ _ (by simp)]; rfl)
  have r1 : w2.cell? ⟨w.heap.size + 1 + 1, 1, none⟩ = some (.int .i64 0) := (hb1.cell (p := ⟨w.heap.size + 1 + 1, 1, none⟩) (by simp only [World.size_alloc]; omega)).trans (by rw [World.cell?_alloc_at _ _ _ _ (by simp)]; rfl)
  have r2 : w2.cell? ⟨w.heap.size + 1 + 1, 2, none⟩ = some (.int .i64 0) := (hb1.cell (p := ⟨w.heap.size + 1 + 1, 2, none⟩) (by simp only [World.size_alloc]; omega)).trans (by rw [World.cell?_alloc_at _ _ _ _ (by simp)]; rfl)
  have r3 : w2.cell? ⟨w.heap.size + 1 + 1, 3, none⟩ = some (.int .i64 0) := (hb1.cell (p := ⟨w.heap.size + 1 + 1, 3, none⟩) (by simp only [World.size_alloc]; omega)).trans (by rw [World.cell?_alloc_at _ _ _ _ (by simp)]; rfl)
  have rf0 : w2.frozen? ⟨w.heap.size + 1 + 1, 0, none⟩ = false := (hb1.frozen (p := ⟨w.heap.size + 1 + 1, 0, none⟩) (by simp only [World.size_alloc]; omega)).trans (by rw [World.frozen?_alloc_at _ _ _ _ (by simp)])
  have rf1 : w2.frozen? ⟨w.heap.size + 1 + 1, 1, none⟩ = false := (hb1.frozen (p := ⟨w.heap.size + 1 + 1, 1, none⟩) (by simp only [World.size_alloc]; omega)).trans (by rw [World.frozen?_alloc_at _ _ _ _ (by simp)])
  have rf2 : w2.frozen? ⟨w.heap.size + 1 + 1, 2, none⟩ = false := (hb1.frozen (p := ⟨w.heap.size + 1 + 1, 2, none⟩) (by simp only [World.size_alloc]; omega)).trans (by rw [World.frozen?_alloc_at _ _ _ _ (by simp)])
  have rf3 : w2.frozen? ⟨w.heap.size + 1 + 1, 3, none⟩ = false := (hb1.frozen (p := ⟨w.heap.size + 1 + 1, 3, none⟩) (by simp only [World.size_alloc]; omega)).trans (by rw [World.frozen?_alloc_at _ _ _ _ (by simp)])
  have c4 := m0
  have c5 := m1
  have c6 := m2
  have c7 := m3
  clear hc1 hf1 hz1 hb1 cf0 cf1 cf2 cf3 mf0 mf1 mf2 mf3 m0 m1 m2 m3
  obtain ⟨W0, rfl⟩ : ∃ W0, W0 = w2 := ⟨_, rfl⟩
  go_upto_region 3 with fail
  go_cut [6] (fun s6 wx => ∃ g6 : Nat, s6 = .pointer (some ⟨g6, 0, none⟩) ∧ (wx.cell? ⟨g6, 0, none⟩ = some (.int .i64 (moveX e f a b)) ∧ wx.cell? ⟨g6, 1, none⟩ = some (.int .i64 (moveX g h a b)) ∧ wx.cell? ⟨g6, 2, none⟩ = some (.int .i64 (moveX e f c d)) ∧ wx.cell? ⟨g6, 3, none⟩ = some (.int .i64 (moveX g h c d))) ∧ (wx.frozen? ⟨g6, 0, none⟩ = false ∧ wx.frozen? ⟨g6, 1, none⟩ = false ∧ wx.frozen? ⟨g6, 2, none⟩ = false ∧ wx.frozen? ⟨g6, 3, none⟩ = false) ∧ W0.heap.size ≤ g6 ∧ g6 < wx.heap.size ∧ Below W0.heap.size W0 wx)
  case first =>
    go_region_held3 (fun w' => w'.cell? ⟨w.heap.size, 0, none⟩ = some (.int .i64 (a)) ∧ w'.cell? ⟨w.heap.size, 1, none⟩ = some (.int .i64 (b)) ∧ w'.cell? ⟨w.heap.size, 2, none⟩ = some (.int .i64 (c)) ∧ w'.cell? ⟨w.heap.size, 3, none⟩ = some (.int .i64 (d)) ∧ w'.cell? ⟨w.heap.size + 1, 0, none⟩ = some (.int .i64 (e)) ∧ w'.cell? ⟨w.heap.size + 1, 1, none⟩ = some (.int .i64 (f)) ∧ w'.cell? ⟨w.heap.size + 1, 2, none⟩ = some (.int .i64 (g)) ∧ w'.cell? ⟨w.heap.size + 1, 3, none⟩ = some (.int .i64 (h)) ∧ Below W0.heap.size W0 w') ((refine (fun hS => ⟨(hS.cell (p := ⟨w.heap.size, 0, none⟩) hs0).trans c0, (hS.cell (p := ⟨w.heap.size, 1, none⟩) hs0).trans c1, (hS.cell (p := ⟨w.heap.size, 2, none⟩) hs0).trans c2, (hS.cell (p := ⟨w.heap.size, 3, none⟩) hs0).trans c3, (hS.cell (p := ⟨w.heap.size + 1, 0, none⟩) hs1).trans c4, (hS.cell (p := ⟨w.heap.size + 1, 1, none⟩) hs1).trans c5, (hS.cell (p := ⟨w.heap.size + 1, 2, none⟩) hs1).trans c6, (hS.cell (p := ⟨w.heap.size + 1, 3, none⟩) hs1).trans c7, hS⟩) (?_ : Below W0.heap.size W0 _); first | (go_grown; done))) (first | (go_at_call 74; go_call (l1Move_any _ _ _ _ _ _ _ he hf hg hh (by assumption) (by assumption)) as e w1 ⟨rfl, hb0⟩; have hT : Below W0.heap.size W0 w1 := belowTo (by go_split_ands; assumption) hb0; have hTs := hT.size; (first | have hb1 := belowTo (by assumption) hb0 | have hb1 := hb0); obtain ⟨hc1, hf1⟩ := bcell hb1; have hz1 := bsize hb1; have hbs := hb0.size; (try simp only [World.size_alloc, World.size_drew, Nat.add_one_le_iff] at hbs); (try have t1 : W0.heap.size < w1.heap.size := (by omega)); (try have t2 : ¬ W0.heap.size = w1.heap.size := (by omega)); (try have t3 : ¬ w1.heap.size = W0.heap.size := (by omega))))
    all_goals (go_wp2_with fail; go_meet)
    all_goals exact ⟨_, rfl, ⟨by first | (go_cell; done) | (simp; done) | (simp [*]; done), by first | (go_cell; done) | (simp; done) | (simp [*]; done), by first | (go_cell; done) | (simp; done) | (simp [*]; done), by first | (go_cell; done) | (simp; done) | (simp [*]; done)⟩, ⟨by first | (go_cell; done) | (simp; done) | (simp [*]; done), by first | (go_cell; done) | (simp; done) | (simp [*]; done), by first | (go_cell; done) | (simp; done) | (simp [*]; done), by first | (go_cell; done) | (simp; done) | (simp [*]; done)⟩, by first | (simp [*]; done) | omega | (simp; omega), by first | (go_size; done) | (simp [*]; done), by go_grown⟩
  case rest =>
    obtain ⟨W1, rfl⟩ : ∃ W1, W1 = wc := ⟨_, rfl⟩
    obtain ⟨g6, rfl, ⟨d0, d1, d2, d3⟩, ⟨f0, f1, f2, f3⟩, hge, hlt, hB1⟩ := hcut
    replace c4 := (hB1.cell (p := ⟨w.heap.size + 1, 0, none⟩) hs1).trans c4
    replace c5 := (hB1.cell (p := ⟨w.heap.size + 1, 1, none⟩) hs1).trans c5
    replace c6 := (hB1.cell (p := ⟨w.heap.size + 1, 2, none⟩) hs1).trans c6
    replace c7 := (hB1.cell (p := ⟨w.heap.size + 1, 3, none⟩) hs1).trans c7
    replace r0 := (hB1.cell (p := ⟨w.heap.size + 1 + 1, 0, none⟩) hs2).trans r0
    replace r1 := (hB1.cell (p := ⟨w.heap.size + 1 + 1, 1, none⟩) hs2).trans r1
    replace r2 := (hB1.cell (p := ⟨w.heap.size + 1 + 1, 2, none⟩) hs2).trans r2
    replace r3 := (hB1.cell (p := ⟨w.heap.size + 1 + 1, 3, none⟩) hs2).trans r3
    replace rf0 := (hB1.frozen (p := ⟨w.heap.size + 1 + 1, 0, none⟩) hs2).trans rf0
    replace rf1 := (hB1.frozen (p := ⟨w.heap.size + 1 + 1, 1, none⟩) hs2).trans rf1
    replace rf2 := (hB1.frozen (p := ⟨w.heap.size + 1 + 1, 2, none⟩) hs2).trans rf2
    replace rf3 := (hB1.frozen (p := ⟨w.heap.size + 1 + 1, 3, none⟩) hs2).trans rf3
    have n2 : g6 ≠ w.heap.size + 1 + 1 := by omega
    have n3 : w.heap.size + 1 + 1 ≠ g6 := by omega
    have n0 : g6 ≠ w.heap.size := by omega
    have n1 : g6 ≠ w.heap.size + 1 := by omega
    have hwg : w.heap.size ≤ g6 := by omega
    clear c0 c1 c2 c3 hge
    replace hs1 := Nat.lt_of_lt_of_le hs1 hB1.size
    replace hs2 := Nat.lt_of_lt_of_le hs2 hB1.size
    replace hB0 := belowTo hB0 hB1
    clear hB1
    go_wp2_with fail
    go_call (specConeIn_any ((moveX e f a b)) ((moveX g h a b)) ((moveX e f c d)) ((moveX g h c d)) _) as e1 w3 ⟨rfl, hb3⟩
    have y0 := (hb3.cell (p := ⟨g6, 0, none⟩) hlt).trans d0
    have y1 := (hb3.cell (p := ⟨g6, 1, none⟩) hlt).trans d1
    have y2 := (hb3.cell (p := ⟨g6, 2, none⟩) hlt).trans d2
    have y3 := (hb3.cell (p := ⟨g6, 3, none⟩) hlt).trans d3
    replace r0 := (hb3.cell (p := ⟨w.heap.size + 1 + 1, 0, none⟩) hs2).trans r0
    replace r1 := (hb3.cell (p := ⟨w.heap.size + 1 + 1, 1, none⟩) hs2).trans r1
    replace r2 := (hb3.cell (p := ⟨w.heap.size + 1 + 1, 2, none⟩) hs2).trans r2
    replace r3 := (hb3.cell (p := ⟨w.heap.size + 1 + 1, 3, none⟩) hs2).trans r3
    replace rf0 := (hb3.frozen (p := ⟨w.heap.size + 1 + 1, 0, none⟩) hs2).trans rf0
    replace rf1 := (hb3.frozen (p := ⟨w.heap.size + 1 + 1, 1, none⟩) hs2).trans rf1
    replace rf2 := (hb3.frozen (p := ⟨w.heap.size + 1 + 1, 2, none⟩) hs2).trans rf2
    replace rf3 := (hb3.frozen (p := ⟨w.heap.size + 1 + 1, 3, none⟩) hs2).trans rf3
    clear d0 d1 d2 d3
    have hs3 : w.heap.size + 1 + 1 < w3.heap.size := Nat.lt_of_lt_of_le (by simpa using hs2) hb3.size
    have hB3 : Below w.heap.size w w3 := belowTo (by go_grown) hb3
    clear hb3 hB0
    rw [hk]
    cases K
    all_goals go_wp2
    all_goals (refine bodyPost_ret (by simp [results, Tryd.results41, go_sem, *]; try rfl) rfl ?_)
    all_goals exact ⟨rfl, by go_grown⟩
set_option maxHeartbeats 2000000 in
theorem specConeMove_any (a b c d e f g h : Int) (w : World) :
    Calls Tryd.prog 41 #[.agg #[.int .i64 (a), .int .i64 (b), .int .i64 (c), .int .i64 (d)], .agg #[.int .i64 (e), .int .i64 (f), .int .i64 (g), .int .i64 (h)]] w fun r w' => r = .returned (.tuple #[.agg #[.int .i64 (gate (cmvOk a b c d e f g h) (cmA a b c d e f g h)), .int .i64 (gate (cmvOk a b c d e f g h) (cmB a b c d e f g h)), .int .i64 (gate (cmvOk a b c d e f g h) (cmC a b c d e f g h)), .int .i64 (gate (cmvOk a b c d e f g h) (cmD a b c d e f g h))], .bool (cmvOk a b c d e f g h)]) ∧ Below w.heap.size w w' := by
  unfold cmvOk cmOk
  cases hc : coneB a b c d
  · go_enter Tryd.func41, Tryd.ntmps41
    (go_wp2_with fail; go_call (specConeIn_any a b c d _) as e w1 ⟨rfl, hb1⟩); obtain ⟨hc1, hf1⟩ := bcell hb1; have hz1 := bsize hb1
    go_wp2
    have hB := belowTo (a := w) (by go_grown) hb1; have hS := hB.size; (refine bodyPost_ret (by simp [results, Tryd.results41, go_sem, bcs hb1]; try rfl) rfl ?_); clear hb1
    exact ⟨rfl, by go_grown⟩
  · cases hm : matB e f g h
    · go_enter Tryd.func41, Tryd.ntmps41
      (go_wp2_with fail; go_call (specConeIn_any a b c d _) as e w1 ⟨rfl, hb1⟩); obtain ⟨hc1, hf1⟩ := bcell hb1; have hz1 := bsize hb1
      (go_wp2_with fail; go_call (specMatIn_any e f g h _) as e w2 ⟨rfl, hb2⟩); replace hb1 := belowTo hb1 hb2; clear hb2 hc1 hf1 hz1; obtain ⟨hc1, hf1⟩ := bcell hb1; have hz1 := bsize hb1
      go_wp2
      have hB := belowTo (a := w) (by go_grown) hb1; have hS := hB.size; (refine bodyPost_ret (by simp [results, Tryd.results41, go_sem, bcs hb1]; try rfl) rfl ?_); clear hb1
      exact ⟨rfl, by go_grown⟩
    · rw [Bool.and_self, Bool.true_and]
      unfold cmA cmB cmC cmD
      cases hn : negM e f g h
      · exact specConeMove_pos a b c d e f g h w hc hm hn _ rfl
      · exact specConeMove_neg a b c d e f g h w hc hm hn _ rfl
end Go.Proofs.YtjlobpccnplebaaDoor
