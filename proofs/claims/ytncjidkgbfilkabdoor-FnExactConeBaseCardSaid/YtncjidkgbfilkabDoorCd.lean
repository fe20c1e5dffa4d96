/- Chapter 2: the kind and the fraction of a cone: both sides. -/
import Derived.Test.YtncjidkgbfilkabDoorCb
import Derived.Test.YtncjidkgbfilkabDoorFb
namespace Go.Proofs.YtncjidkgbfilkabDoor
open Go.RowKit

set_option maxHeartbeats 2000000 in
theorem partner_k (k : Nat) : ∀ (x y : Int) (w : World), y.natAbs ≤ k → vecB x y = true → gcdZ x y = 1 →
    Calls Tryd.prog 80 #[.agg #[.int .i64 (x), .int .i64 (y)]] w fun e w' => e = .returned (.agg #[.int .i64 ((partZ x y).1), .int .i64 ((partZ x y).2)]) ∧ Below w.heap.size w w' := by
  induction k with
  | zero =>
    intro x y w hk hv hg
    obtain rfl : y = 0 := by omega
    rw [part_zero]
    go_enter Tryd.func80, Tryd.ntmps80
    go_wp2
    refine bodyPost_ret (by simp [results, Tryd.results80, go_sem, *]; try rfl) rfl ?_
    exact ⟨rfl, by go_grown⟩
  | succ k ih =>
    intro x y w hk hv hg
    by_cases hy : y = 0
    · subst hy
      rw [part_zero]
      go_enter Tryd.func80, Tryd.ntmps80
      go_wp2
      refine bodyPost_ret (by simp [results, Tryd.results80, go_sem, *]; try rfl) rfl ?_
      exact ⟨rfl, by go_grown⟩
    · obtain ⟨hx1, hy1⟩ := szs hv
      have hm := tmod_bd (y := y) hx1
      have hl := tmod_lt (x := x) hy
      have hg2 : gcdZ y (x.tmod y) = 1 := by rw [gcdZ_step]; exact hg
      have hv2 : vecB y (x.tmod y) = true := by
        have h1 : szB y = true := szB_mk hy1.1 hy1.2
        have h2 : szB (x.tmod y) = true := szB_mk hm.1 hm.2
        simp [vecB, h1, h2]
      obtain ⟨s1, s2⟩ := part_sz hg2 hy1 hm
      obtain ⟨_, s3⟩ := part_sz hg hx1 hy1
      have hd := tdiv_bd (m := y) hx1
      have hq := mul_bd hd s2
      rw [part_step x hy] at s3 ⊢
      have IH := fun w' => ih y (x.tmod y) w' (by omega) hv2 hg2
      generalize hp : partZ y (x.tmod y) = p at *
      obtain ⟨u, v⟩ := p
      simp only at s1 s2 s3 hq ⊢
      have hyb : (y == 0) = false := by simpa using hy
      have HI := Lib.hid IH
      clear IH ih hv hv2 hg hg2 hp
      go_enter Tryd.func80, Tryd.ntmps80
      go_upto_region 3 with fail
      obtain ⟨W0, hW⟩ : ∃ W9, W9 = (w.alloc (.cells #[.int .i64 x, .int .i64 y] 29)).alloc (.cells #[.int .i64 0, .int .i64 0] 29) := ⟨_, rfl⟩; have c0 : W0.cell? ⟨w.heap.size, 0, none⟩ = some (.int .i64 (x)) := (by rw [hW]; simp); have c1 : W0.cell? ⟨w.heap.size, 1, none⟩ = some (.int .i64 (y)) := (by rw [hW]; simp); have c2 : W0.cell? ⟨w.heap.size + 1, 0, none⟩ = some (.int .i64 (0)) := (by rw [hW]; simp); have c3 : W0.cell? ⟨w.heap.size + 1, 1, none⟩ = some (.int .i64 (0)) := (by rw [hW]; simp); have z0 : W0.frozen? ⟨w.heap.size, 0, none⟩ = false := (by rw [hW]; simp); have z1 : W0.frozen? ⟨w.heap.size, 1, none⟩ = false := (by rw [hW]; simp); have z2 : W0.frozen? ⟨w.heap.size + 1, 0, none⟩ = false := (by rw [hW]; simp); have z3 : W0.frozen? ⟨w.heap.size + 1, 1, none⟩ = false := (by rw [hW]; simp); have hB0 : Below w.heap.size w W0 := (by rw [hW]; go_grown); have hs0 : w.heap.size < W0.heap.size := (by rw [hW]; simp only [World.size_alloc]; omega); have hs1 : w.heap.size + 1 < W0.heap.size := (by rw [hW]; simp only [World.size_alloc]; omega); rw [← hW]; clear hW
      go_cut [3] (fun s3 wx => ∃ g3 : Nat, s3 = .pointer (some ⟨g3, 0, none⟩) ∧ wx.cell? ⟨g3, 0, none⟩ = some (.int .i64 u) ∧ wx.cell? ⟨g3, 1, none⟩ = some (.int .i64 v) ∧ g3 < wx.heap.size ∧ Below W0.heap.size W0 wx)
      case first =>
        go_region_held3 (fun w' => w'.cell? ⟨w.heap.size, 0, none⟩ = some (.int .i64 (x)) ∧ w'.cell? ⟨w.heap.size, 1, none⟩ = some (.int .i64 (y)) ∧ Below W0.heap.size W0 w') ((refine (fun hS => ⟨(hS.cell (p := ⟨w.heap.size, 0, none⟩) hs0).trans c0, (hS.cell (p := ⟨w.heap.size, 1, none⟩) hs0).trans c1, hS⟩) (?_ : Below W0.heap.size W0 _); first | (go_grown; done))) (first | (go_at_call 80; go_call (HI.out _) as e w1 ⟨rfl, hb0⟩; have hT : Below W0.heap.size W0 w1 := belowTo (by go_split_ands; assumption) hb0; have hTs := hT.size; (first | have hb1 := belowTo (by assumption) hb0 | have hb1 := hb0); obtain ⟨hc1, hf1⟩ := bcell hb1; have hz1 := bsize hb1))
        all_goals (go_wp2_with fail; go_meet)
        all_goals exact ⟨_, rfl, by first | (go_cell; done) | (simp; done) | (simp [*]; done), by first | (go_cell; done) | (simp; done) | (simp [*]; done), by first | (go_size; done) | (simp [*]; done), by go_grown⟩
      case rest =>
        obtain ⟨g3, rfl, d0, d1, ld, hB1⟩ := hcut
        replace c0 := (hB1.cell (p := ⟨w.heap.size, 0, none⟩) hs0).trans c0
        replace c1 := (hB1.cell (p := ⟨w.heap.size, 1, none⟩) hs0).trans c1
        replace c2 := (hB1.cell (p := ⟨w.heap.size + 1, 0, none⟩) hs1).trans c2
        replace c3 := (hB1.cell (p := ⟨w.heap.size + 1, 1, none⟩) hs1).trans c3
        replace z2 := (hB1.frozen (p := ⟨w.heap.size + 1, 0, none⟩) hs1).trans z2
        replace z3 := (hB1.frozen (p := ⟨w.heap.size + 1, 1, none⟩) hs1).trans z3
        replace hs0 := Nat.lt_of_lt_of_le hs0 hB1.size
        replace hs1 := Nat.lt_of_lt_of_le hs1 hB1.size
        replace hB0 := belowTo hB0 hB1
        clear hB1
        go_wp2
        all_goals go_region
        all_goals go_wp2
        all_goals (refine bodyPost_ret (by simp [results, Tryd.results80, go_sem, *]; try rfl) rfl ?_)
        all_goals exact ⟨rfl, by go_grown⟩
theorem partner_any (x y : Int) (w : World) (hv : vecB x y = true) (hg : gcdZ x y = 1) :
    Calls Tryd.prog 80 #[.agg #[.int .i64 (x), .int .i64 (y)]] w fun e w' => e = .returned (.agg #[.int .i64 ((partZ x y).1), .int .i64 ((partZ x y).2)]) ∧ Below w.heap.size w w' :=
  partner_k _ x y w (Nat.le_refl _) hv hg
set_option maxHeartbeats 2000000 in
theorem rest_any (a n : Int) (w : World) (hn : 0 < n) (hn2 : n ≤ 2000000) :
    Calls Tryd.prog 79 #[.int .i64 a, .int .i64 n] w fun e w' => e = .returned (.int .i64 (a % n)) ∧ Below w.heap.size w w' := by
  obtain ⟨t1, t2⟩ := tmod_bds (a := a) hn
  have HR := Lib.hid (rest_is (a := a) hn)
  have hnb : (n == 0) = false := by simp; omega
  have hnn : ¬ n = 0 := by omega
  go_enter Tryd.func79, Tryd.ntmps79
  go_wp2
  go_returns
  refine ⟨?_, by go_grown⟩
  rw [← HR.out]
  first | rfl | (refine ret_int ?_; rfl) | skip
  all_goals first | rfl | (refine ret_int ?_; exact (Int.tmod_eq_emod_of_nonneg (by omega)).symm)
set_option maxHeartbeats 4000000 in
theorem kind_any (a b c d : Int) (w : World) (h : coneB a b c d = true) :
    Calls Tryd.prog 65 #[.agg #[.int .i64 (a), .int .i64 (b), .int .i64 (c), .int .i64 (d)]] w fun e w' => e = .returned (.int .i64 (kindC a b c d)) ∧ Below w.heap.size w w' := by
  obtain ⟨h1, o1, h2, o2, hp⟩ := cone_in h
  have hp' := posB_true hp
  have g1 := oneB_true o1
  have hn := det_sz h1 h2
  obtain ⟨x1, y1⟩ := szs h1
  obtain ⟨s1, s2⟩ := part_sz g1 x1 y1
  have hv : vecB (partZ a b).1 (partZ a b).2 = true := by
    have k1 : szB (partZ a b).1 = true := szB_mk s1.1 s1.2
    have k2 : szB (partZ a b).2 = true := szB_mk s2.1 s2.2
    simp [vecB, k1, k2]
  have hq := dot_sz hv h2
  have hk := kindC_is (a := a) (b := b) (c := c) (d := d)
  have HP := Lib.hid (fun w' => partner_any a b w' h1 g1)
  generalize hpp : partZ a b = p at *
  obtain ⟨u, v⟩ := p
  simp only at s1 s2 hv hq hk HP
  clear o1 o2 hp h g1 hpp
  go_enter Tryd.func65, Tryd.ntmps65
  (go_wp2_with fail; go_call (index_any a b c d _ h1 h2) as e w1 ⟨rfl, hb1⟩); obtain ⟨hc1, hf1⟩ := bcell hb1; have hz1 := bsize hb1
  have hA : Below w.heap.size w w1 := belowTo (by go_grown) hb1
  have p0 : w1.cell? ⟨w.heap.size, 0, none⟩ = some (.int .i64 (a)) := (hb1.cell (p := ⟨w.heap.size, 0, none⟩) (by first | assumption | (go_size; done) | (simp; omega) | (simp only [World.size_alloc]; omega))).trans (by first | assumption | (go_cell; done) | (go_simp; done) | simp [*]); have pf0 : w1.frozen? ⟨w.heap.size, 0, none⟩ = false := (hb1.frozen (p := ⟨w.heap.size, 0, none⟩) (by first | assumption | (go_size; done) | (simp; omega) | (simp only [World.size_alloc]; omega))).trans (by first | assumption | (go_cell; done) | (go_simp; done) | simp [*]); have p1 : w1.cell? ⟨w.heap.size, 1, none⟩ = some (.int .i64 (b)) := (hb1.cell (p := ⟨w.heap.size, 1, none⟩) (by first | assumption | (go_size; done) | (simp; omega) | (simp only [World.size_alloc]; omega))).trans (by first | assumption | (go_cell; done) | (go_simp; done) | simp [*]); have pf1 : w1.frozen? ⟨w.heap.size, 1, none⟩ = false := (hb1.frozen (p := ⟨w.heap.size, 1, none⟩) (by first | assumption | (go_size; done) | (simp; omega) | (simp only [World.size_alloc]; omega))).trans (by first | assumption | (go_cell; done) | (go_simp; done) | simp [*]); have p2 : w1.cell? ⟨w.heap.size, 2, none⟩ = some (.int .i64 (c)) := (hb1.cell (p := ⟨w.heap.size, 2, none⟩) (by first | assumption | (go_size; done) | (simp; omega) | (simp only [World.size_alloc]; omega))).trans (by first | assumption | (go_cell; done) | (go_simp; done) | simp [*]); have pf2 : w1.frozen? ⟨w.heap.size, 2, none⟩ = false := (hb1.frozen (p := ⟨w.heap.size, 2, none⟩) (by first | assumption | (go_size; done) | (simp; omega) | (simp only [World.size_alloc]; omega))).trans (by first | assumption | (go_cell; done) | (go_simp; done) | simp [*]); have p3 : w1.cell? ⟨w.heap.size, 3, none⟩ = some (.int .i64 (d)) := (hb1.cell (p := ⟨w.heap.size, 3, none⟩) (by first | assumption | (go_size; done) | (simp; omega) | (simp only [World.size_alloc]; omega))).trans (by first | assumption | (go_cell; done) | (go_simp; done) | simp [*]); have pf3 : w1.frozen? ⟨w.heap.size, 3, none⟩ = false := (hb1.frozen (p := ⟨w.heap.size, 3, none⟩) (by first | assumption | (go_size; done) | (simp; omega) | (simp only [World.size_alloc]; omega))).trans (by first | assumption | (go_cell; done) | (go_simp; done) | simp [*])
  have hl : w.heap.size < w1.heap.size := hz1 _ (by simp)
  have e1 : IntKind.i64.wrap (-(dotZ u v c d)) = -(dotZ u v c d) := by rw [IntKind.wrap_i64]; omega
  clear hc1 hf1 hz1 hb1 pf0 pf1 pf2 pf3
  go_upto_region 2 with fail
  go_region_held3 (fun w' => w'.cell? ⟨w.heap.size, 0, none⟩ = some (.int .i64 (a)) ∧ w'.cell? ⟨w.heap.size, 1, none⟩ = some (.int .i64 (b)) ∧ w'.cell? ⟨w.heap.size, 2, none⟩ = some (.int .i64 (c)) ∧ w'.cell? ⟨w.heap.size, 3, none⟩ = some (.int .i64 (d)) ∧ Below w.heap.size w w') ((go_split_ands; refine ⟨by (first | (with_reducible assumption) | (go_keep; done) | (go_cell; done) | (go_simp; done) | (simp [*]; done)), by (first | (with_reducible assumption) | (go_keep; done) | (go_cell; done) | (go_simp; done) | (simp [*]; done)), by (first | (with_reducible assumption) | (go_keep; done) | (go_cell; done) | (go_simp; done) | (simp [*]; done)), by (first | (with_reducible assumption) | (go_keep; done) | (go_cell; done) | (go_simp; done) | (simp [*]; done)), by first | (with_reducible assumption) | (go_grown; done)⟩)) (first | (go_at_call 80; go_call (HP.out _) as e w1 ⟨rfl, hb0⟩; go_split_ands; have q0 : w1.cell? ⟨w.heap.size, 0, none⟩ = some (.int .i64 (a)) := (hb0.cell (p := ⟨w.heap.size, 0, none⟩) (by first | (with_reducible assumption) | (go_size; done) | (simp; omega))).trans (by first | (with_reducible assumption) | (go_keep; done) | (go_cell; done) | (go_simp; done) | (simp [*]; done)); have q1 : w1.cell? ⟨w.heap.size, 1, none⟩ = some (.int .i64 (b)) := (hb0.cell (p := ⟨w.heap.size, 1, none⟩) (by first | (with_reducible assumption) | (go_size; done) | (simp; omega))).trans (by first | (with_reducible assumption) | (go_keep; done) | (go_cell; done) | (go_simp; done) | (simp [*]; done)); have q2 : w1.cell? ⟨w.heap.size, 2, none⟩ = some (.int .i64 (c)) := (hb0.cell (p := ⟨w.heap.size, 2, none⟩) (by first | (with_reducible assumption) | (go_size; done) | (simp; omega))).trans (by first | (with_reducible assumption) | (go_keep; done) | (go_cell; done) | (go_simp; done) | (simp [*]; done)); have q3 : w1.cell? ⟨w.heap.size, 3, none⟩ = some (.int .i64 (d)) := (hb0.cell (p := ⟨w.heap.size, 3, none⟩) (by first | (with_reducible assumption) | (go_size; done) | (simp; omega))).trans (by first | (with_reducible assumption) | (go_keep; done) | (go_cell; done) | (go_simp; done) | (simp [*]; done)); have hs0 : w.heap.size < w1.heap.size := Nat.lt_of_lt_of_le (by first | (with_reducible assumption) | (go_size; done) | (simp; omega)) hb0.size; have hT : Below w.heap.size w w1 := belowTo (by first | (with_reducible assumption) | (go_grown; done)) hb0; have hTs := hT.size; clear hb0) | (go_at_call 81; go_call (product_any u v c d _ hv h2) as e w1 ⟨rfl, hb0⟩; go_split_ands; have q0 : w1.cell? ⟨w.heap.size, 0, none⟩ = some (.int .i64 (a)) := (hb0.cell (p := ⟨w.heap.size, 0, none⟩) (by first | (with_reducible assumption) | (go_size; done) | (simp; omega))).trans (by first | (with_reducible assumption) | (go_keep; done) | (go_cell; done) | (go_simp; done) | (simp [*]; done)); have q1 : w1.cell? ⟨w.heap.size, 1, none⟩ = some (.int .i64 (b)) := (hb0.cell (p := ⟨w.heap.size, 1, none⟩) (by first | (with_reducible assumption) | (go_size; done) | (simp; omega))).trans (by first | (with_reducible assumption) | (go_keep; done) | (go_cell; done) | (go_simp; done) | (simp [*]; done)); have q2 : w1.cell? ⟨w.heap.size, 2, none⟩ = some (.int .i64 (c)) := (hb0.cell (p := ⟨w.heap.size, 2, none⟩) (by first | (with_reducible assumption) | (go_size; done) | (simp; omega))).trans (by first | (with_reducible assumption) | (go_keep; done) | (go_cell; done) | (go_simp; done) | (simp [*]; done)); have q3 : w1.cell? ⟨w.heap.size, 3, none⟩ = some (.int .i64 (d)) := (hb0.cell (p := ⟨w.heap.size, 3, none⟩) (by first | (with_reducible assumption) | (go_size; done) | (simp; omega))).trans (by first | (with_reducible assumption) | (go_keep; done) | (go_cell; done) | (go_simp; done) | (simp [*]; done)); have hs0 : w.heap.size < w1.heap.size := Nat.lt_of_lt_of_le (by first | (with_reducible assumption) | (go_size; done) | (simp; omega)) hb0.size; have hT : Below w.heap.size w w1 := belowTo (by first | (with_reducible assumption) | (go_grown; done)) hb0; have hTs := hT.size; clear hb0) | (go_at_call 79; go_call (rest_any (-(dotZ u v c d)) (detZ a b c d) _ hp' (by assumption)) as e w1 ⟨rfl, hb0⟩; go_split_ands; have q0 : w1.cell? ⟨w.heap.size, 0, none⟩ = some (.int .i64 (a)) := (hb0.cell (p := ⟨w.heap.size, 0, none⟩) (by first | (with_reducible assumption) | (go_size; done) | (simp; omega))).trans (by first | (with_reducible assumption) | (go_keep; done) | (go_cell; done) | (go_simp; done) | (simp [*]; done)); have q1 : w1.cell? ⟨w.heap.size, 1, none⟩ = some (.int .i64 (b)) := (hb0.cell (p := ⟨w.heap.size, 1, none⟩) (by first | (with_reducible assumption) | (go_size; done) | (simp; omega))).trans (by first | (with_reducible assumption) | (go_keep; done) | (go_cell; done) | (go_simp; done) | (simp [*]; done)); have q2 : w1.cell? ⟨w.heap.size, 2, none⟩ = some (.int .i64 (c)) := (hb0.cell (p := ⟨w.heap.size, 2, none⟩) (by first | (with_reducible assumption) | (go_size; done) | (simp; omega))).trans (by first | (with_reducible assumption) | (go_keep; done) | (go_cell; done) | (go_simp; done) | (simp [*]; done)); have q3 : w1.cell? ⟨w.heap.size, 3, none⟩ = some (.int .i64 (d)) := (hb0.cell (p := ⟨w.heap.size, 3, none⟩) (by first | (with_reducible assumption) | (go_size; done) | (simp; omega))).trans (by first | (with_reducible assumption) | (go_keep; done) | (go_cell; done) | (go_simp; done) | (simp [*]; done)); have hs0 : w.heap.size < w1.heap.size := Nat.lt_of_lt_of_le (by first | (with_reducible assumption) | (go_size; done) | (simp; omega)) hb0.size; have hT : Below w.heap.size w w1 := belowTo (by first | (with_reducible assumption) | (go_grown; done)) hb0; have hTs := hT.size; clear hb0))
  all_goals (go_wp2; go_returns; exact ⟨rfl, by go_grown⟩)
theorem mul_bd2 {q a : Int} (hq : 0 ≤ q ∧ q ≤ 2000000) (ha : -1000 ≤ a ∧ a ≤ 1000) : -2000000000 ≤ q * a ∧ q * a ≤ 2000000000 := by
  have h : (q * a).natAbs ≤ 2000000000 := by
    rw [Int.natAbs_mul]
    have := Nat.mul_le_mul (show q.natAbs ≤ 2000000 by omega) (show a.natAbs ≤ 1000 by omega)
    omega
  omega
set_option maxHeartbeats 4000000 in
theorem l2Kind_any (a b c d : Int) (w : World) (h : coneB a b c d = true) :
    Calls Tryd.prog 57 #[.agg #[.int .i64 (a), .int .i64 (b), .int .i64 (c), .int .i64 (d)]] w fun e w' => e = .returned (.int .i64 (kindC a b c d)) ∧ Below w.heap.size w w' := by
  obtain ⟨h1, o1, h2, o2, hp⟩ := cone_in h
  have hp' := posB_true hp
  have hn := det_sz h1 h2
  obtain ⟨xa, xb⟩ := szs h1
  obtain ⟨xc, xd⟩ := szs h2
  have hk := kindC_rng h
  have HA := Lib.hid (fun q => kindAsk_is (q := q) h)
  have hnb : (detZ a b c d == 0) = false := by simp; omega
  have hnn : ¬ detZ a b c d = 0 := by omega
  clear o1 o2 hp h
  generalize kindC a b c d = K at *
  go_enter Tryd.func57, Tryd.ntmps57
  (go_wp2_with fail; go_call (l1Det_any a b c d _ h1 h2) as e w1 ⟨rfl, hb1⟩); obtain ⟨hc1, hf1⟩ := bcell hb1; have hz1 := bsize hb1
  have hB1 : Below w.heap.size w w1 := belowTo (by go_grown) hb1
  have q0 : w1.cell? ⟨w.heap.size, 0, none⟩ = some (.int .i64 a) := (hb1.cell (p := ⟨w.heap.size, 0, none⟩) (by simp)).trans (by simp)
  have q1 : w1.cell? ⟨w.heap.size, 1, none⟩ = some (.int .i64 b) := (hb1.cell (p := ⟨w.heap.size, 1, none⟩) (by simp)).trans (by simp)
  have q2 : w1.cell? ⟨w.heap.size, 2, none⟩ = some (.int .i64 c) := (hb1.cell (p := ⟨w.heap.size, 2, none⟩) (by simp)).trans (by simp)
  have q3 : w1.cell? ⟨w.heap.size, 3, none⟩ = some (.int .i64 d) := (hb1.cell (p := ⟨w.heap.size, 3, none⟩) (by simp)).trans (by simp)
  have hlt : w.heap.size < w1.heap.size := hz1 _ (by simp)
  clear hc1 hf1 hz1 hb1
  generalize hN : detZ a b c d = N at *
  go_wp2
  go_loopw [4] (fun s3 wr => ∃ k : Int, s3 = .int .i64 k ∧ 0 ≤ k ∧ k ≤ K ∧ Below w1.heap.size w1 wr) (fun s3 _ => (K - intOf s3).toNat)
  case atStart => exact ⟨0, rfl, by omega, by omega, Below.refl _ _⟩
  case round =>
    obtain ⟨k, rfl, k0, k1, hB⟩ := hrel
    have p0 := (hB.cell (p := ⟨w.heap.size, 0, none⟩) hlt).trans q0
    have p1 := (hB.cell (p := ⟨w.heap.size, 1, none⟩) hlt).trans q1
    have p2 := (hB.cell (p := ⟨w.heap.size, 2, none⟩) hlt).trans q2
    have p3 := (hB.cell (p := ⟨w.heap.size, 3, none⟩) hlt).trans q3
    have hkn : k < N := by omega
    have m1 := mul_bd2 (a := a) (q := k) ⟨k0, by omega⟩ xa
    have m2 := mul_bd2 (a := b) (q := k) ⟨k0, by omega⟩ xb
    have hask := HA.out k k0 hkn
    unfold kindAsk at hask
    rw [hN] at hask
    by_cases hkk : k = K
    · have hb : (k == K) = true := by simpa using hkk
      rw [hb, Bool.and_eq_true] at hask
      obtain ⟨t1, t2⟩ := hask
      subst hkk
      clear q0 q1 q2 q3 hb
      go_wp2
      go_returns
      exact ⟨rfl, belowTo hB1 hB⟩
    · have hb : (k == K) = false := by simpa using hkk
      rw [hb] at hask
      clear q0 q1 q2 q3 hb
      cases t1 : (k * a + c).tmod N == 0
      · clear hask
        go_wp2
        go_roundw
        case rel => exact ⟨k + 1, rfl, by omega, by omega, by go_grown⟩
        case measure => simp [intOf]; omega
      · have t2 : ((k * b + d).tmod N == 0) = false := by simpa [t1] using hask
        clear hask
        go_wp2
        go_roundw
        case rel => exact ⟨k + 1, rfl, by omega, by omega, by go_grown⟩
        case measure => simp [intOf]; omega
end Go.Proofs.YtncjidkgbfilkabDoor
