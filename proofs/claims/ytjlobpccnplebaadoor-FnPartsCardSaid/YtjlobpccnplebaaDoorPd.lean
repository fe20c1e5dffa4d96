/- The draws of the promises of chapter 2: a cone and a vector; a cone and a matrix. -/
import Derived.Test.YtjlobpccnplebaaDoorPc
import Derived.Test.YtjlobpccnplebaaDoorRg
namespace Go.Proofs.YtjlobpccnplebaaDoor
open Go.RowKit

theorem small_mul {p x : Int} (hp : 0 ≤ p ∧ p < 4) (hx : -6 ≤ x ∧ x ≤ 6) : -18 ≤ p * x ∧ p * x ≤ 18 := by
  obtain h | h | h | h : p = 0 ∨ p = 1 ∨ p = 2 ∨ p = 3 := by omega
  all_goals (subst h; omega)
def ConeVec (w : World) (e : Ending) (w' : World) : Prop := ∃ x y z u p q : Int, e = .returned (.tuple #[.agg #[.int .i64 (x), .int .i64 (y), .int .i64 (z), .int .i64 (u)], .agg #[.int .i64 (p), .int .i64 (q)]]) ∧ Below w.heap.size w w'
set_option maxHeartbeats 16000000 in
theorem l91Given_any (w : World) (a : Option Addr) (len cap : Nat) (h : Bytes w a len cap) :
    Calls Tryd.prog 58 #[.slice a len cap] w (ConeVec w) := by
  go_enter Tryd.func58, Tryd.ntmps58
  go_wp2_with fail
  refine Calls.mono (l6Open_any _ a len cap (h.below (by go_grown))) ?_
  rintro e w1 ⟨l1, c1, rfl, r1, hb1, hs1⟩
  simp only [World.size_alloc] at r1 hs1
  have hA : Below w.heap.size w w1 := belowTo (by go_grown) hb1
  have e0 : w1.cell? ⟨w.heap.size, 0, none⟩ = some (.int .i64 0) := (hb1.cell (p := ⟨w.heap.size, 0, none⟩) (by simp only [World.size_alloc]; omega)).trans (by simp)
  have f0 : w1.frozen? ⟨w.heap.size, 0, none⟩ = false := (hb1.frozen (p := ⟨w.heap.size, 0, none⟩) (by simp only [World.size_alloc]; omega)).trans (by simp)
  have e1 : w1.cell? ⟨w.heap.size, 1, none⟩ = some (.int .i64 0) := (hb1.cell (p := ⟨w.heap.size, 1, none⟩) (by simp only [World.size_alloc]; omega)).trans (by simp)
  have f1 : w1.frozen? ⟨w.heap.size, 1, none⟩ = false := (hb1.frozen (p := ⟨w.heap.size, 1, none⟩) (by simp only [World.size_alloc]; omega)).trans (by simp)
  have e2 : w1.cell? ⟨w.heap.size, 2, none⟩ = some (.int .i64 0) := (hb1.cell (p := ⟨w.heap.size, 2, none⟩) (by simp only [World.size_alloc]; omega)).trans (by simp)
  have f2 : w1.frozen? ⟨w.heap.size, 2, none⟩ = false := (hb1.frozen (p := ⟨w.heap.size, 2, none⟩) (by simp only [World.size_alloc]; omega)).trans (by simp)
  have e3 : w1.cell? ⟨w.heap.size, 3, none⟩ = some (.int .i64 0) := (hb1.cell (p := ⟨w.heap.size, 3, none⟩) (by simp only [World.size_alloc]; omega)).trans (by simp)
  have f3 : w1.frozen? ⟨w.heap.size, 3, none⟩ = false := (hb1.frozen (p := ⟨w.heap.size, 3, none⟩) (by simp only [World.size_alloc]; omega)).trans (by simp)
  have e4 : w1.cell? ⟨w.heap.size + 1, 0, none⟩ = some (.int .i64 0) := (hb1.cell (p := ⟨w.heap.size + 1, 0, none⟩) (by simp only [World.size_alloc]; omega)).trans (by simp)
  have f4 : w1.frozen? ⟨w.heap.size + 1, 0, none⟩ = false := (hb1.frozen (p := ⟨w.heap.size + 1, 0, none⟩) (by simp only [World.size_alloc]; omega)).trans (by simp)
  have e5 : w1.cell? ⟨w.heap.size + 1, 1, none⟩ = some (.int .i64 0) := (hb1.cell (p := ⟨w.heap.size + 1, 1, none⟩) (by simp only [World.size_alloc]; omega)).trans (by simp)
  have f5 : w1.frozen? ⟨w.heap.size + 1, 1, none⟩ = false := (hb1.frozen (p := ⟨w.heap.size + 1, 1, none⟩) (by simp only [World.size_alloc]; omega)).trans (by simp)
  clear hb1 h
  go_wp2_with fail
  refine Calls.mono (l91Cone_any _ (w.heap.size + 1 + 1) a l1 c1 0 r1 (by omega)) ?_
  rintro e w2 ⟨x, y, z, u, q, rfl, hx, hy, hz, hu, hq, r2, b2, K2⟩
  replace e0 := (K2.1 (w.heap.size) 0 (by omega) (by omega)).1.trans e0
  replace f0 := (K2.1 (w.heap.size) 0 (by omega) (by omega)).2.trans f0
  replace e1 := (K2.1 (w.heap.size) 1 (by omega) (by omega)).1.trans e1
  replace f1 := (K2.1 (w.heap.size) 1 (by omega) (by omega)).2.trans f1
  replace e2 := (K2.1 (w.heap.size) 2 (by omega) (by omega)).1.trans e2
  replace f2 := (K2.1 (w.heap.size) 2 (by omega) (by omega)).2.trans f2
  replace e3 := (K2.1 (w.heap.size) 3 (by omega) (by omega)).1.trans e3
  replace f3 := (K2.1 (w.heap.size) 3 (by omega) (by omega)).2.trans f3
  replace e4 := (K2.1 (w.heap.size + 1) 0 (by omega) (by omega)).1.trans e4
  replace f4 := (K2.1 (w.heap.size + 1) 0 (by omega) (by omega)).2.trans f4
  replace e5 := (K2.1 (w.heap.size + 1) 1 (by omega) (by omega)).1.trans e5
  replace f5 := (K2.1 (w.heap.size + 1) 1 (by omega) (by omega)).2.trans f5
  have Q2 : Below w.heap.size w w2 := hA.trans (b2.mono (by omega))
  have s2 : w.heap.size + 1 + 1 < w2.heap.size := r2.2.2.2.2.1
  have q0 : 0 ≤ q := r2.2.2.2.2.2
  have hz' : Below (w.heap.size + 1 + 1 + 1) w2 (w2.alloc (.cells #[.int .i64 x, .int .i64 y, .int .i64 z, .int .i64 u] 26)) := by go_grown
  replace e0 := (hz'.cell (p := ⟨w.heap.size, 0, none⟩) (by simp <;> omega)).trans e0
  replace f0 := (hz'.frozen (p := ⟨w.heap.size, 0, none⟩) (by simp <;> omega)).trans f0
  replace e1 := (hz'.cell (p := ⟨w.heap.size, 1, none⟩) (by simp <;> omega)).trans e1
  replace f1 := (hz'.frozen (p := ⟨w.heap.size, 1, none⟩) (by simp <;> omega)).trans f1
  replace e2 := (hz'.cell (p := ⟨w.heap.size, 2, none⟩) (by simp <;> omega)).trans e2
  replace f2 := (hz'.frozen (p := ⟨w.heap.size, 2, none⟩) (by simp <;> omega)).trans f2
  replace e3 := (hz'.cell (p := ⟨w.heap.size, 3, none⟩) (by simp <;> omega)).trans e3
  replace f3 := (hz'.frozen (p := ⟨w.heap.size, 3, none⟩) (by simp <;> omega)).trans f3
  replace e4 := (hz'.cell (p := ⟨w.heap.size + 1, 0, none⟩) (by simp <;> omega)).trans e4
  replace f4 := (hz'.frozen (p := ⟨w.heap.size + 1, 0, none⟩) (by simp <;> omega)).trans f4
  replace e5 := (hz'.cell (p := ⟨w.heap.size + 1, 1, none⟩) (by simp <;> omega)).trans e5
  replace f5 := (hz'.frozen (p := ⟨w.heap.size + 1, 1, none⟩) (by simp <;> omega)).trans f5
  have i0 : (w2.alloc (.cells #[.int .i64 x, .int .i64 y, .int .i64 z, .int .i64 u] 26)).cell? ⟨w2.heap.size, 0, none⟩ = some (.int .i64 x) := by simp
  have i1 : (w2.alloc (.cells #[.int .i64 x, .int .i64 y, .int .i64 z, .int .i64 u] 26)).cell? ⟨w2.heap.size, 1, none⟩ = some (.int .i64 y) := by simp
  have i2 : (w2.alloc (.cells #[.int .i64 x, .int .i64 y, .int .i64 z, .int .i64 u] 26)).cell? ⟨w2.heap.size, 2, none⟩ = some (.int .i64 z) := by simp
  have i3 : (w2.alloc (.cells #[.int .i64 x, .int .i64 y, .int .i64 z, .int .i64 u] 26)).cell? ⟨w2.heap.size, 3, none⟩ = some (.int .i64 u) := by simp
  have r3 := r2.below hz'
  have Q3 : Below w.heap.size w (w2.alloc (.cells #[.int .i64 x, .int .i64 y, .int .i64 z, .int .i64 u] 26)) := by go_grown
  have m0 : w.heap.size ≠ w.heap.size + 1 + 1 := by omega
  have m1 : w.heap.size + 1 ≠ w.heap.size + 1 + 1 := by omega
  have m2 : w2.heap.size ≠ w.heap.size + 1 + 1 := by omega
  have m3 : ¬ w.heap.size = w2.heap.size := by omega
  have m4 : ¬ w.heap.size + 1 = w2.heap.size := by omega
  have m5 : ¬ w.heap.size + 1 = w.heap.size := by omega
  clear K2 b2 r1 hA Q2 r2 hz'
  go_wp2_with fail
  refine Calls.mono (pick_any _ _ a l1 c1 q 2 r3 (by omega) (by omega)) ?_
  rintro e w3 ⟨t, rfl, t0, t1, r4, k3, fk3, s3, q3⟩
  replace e0 := (k3 _ 0 m0).trans e0
  replace f0 := (fk3 _ 0 m0).trans f0
  replace e1 := (k3 _ 1 m0).trans e1
  replace f1 := (fk3 _ 1 m0).trans f1
  replace e2 := (k3 _ 2 m0).trans e2
  replace f2 := (fk3 _ 2 m0).trans f2
  replace e3 := (k3 _ 3 m0).trans e3
  replace f3 := (fk3 _ 3 m0).trans f3
  replace e4 := (k3 _ 0 m1).trans e4
  replace f4 := (fk3 _ 0 m1).trans f4
  replace e5 := (k3 _ 1 m1).trans e5
  replace f5 := (fk3 _ 1 m1).trans f5
  replace i0 := (k3 _ 0 m2).trans i0
  replace i1 := (k3 _ 1 m2).trans i1
  replace i2 := (k3 _ 2 m2).trans i2
  replace i3 := (k3 _ 3 m2).trans i3
  have hw3 : w2.heap.size < w3.heap.size := by rw [s3]; simp
  have Q4 : Below w.heap.size w w3 := Q3.trans (q3.mono (by omega))
  clear k3 fk3 s3 q3 r3 Q3
  by_cases ht : t = 0
  · subst ht
    go_wp2_with fail
    refine Calls.mono (pick_any _ _ a l1 c1 (q + 1) 4 r4 (by omega) (by omega)) ?_
    rintro e w4 ⟨p1, rfl, p1a, p1b, r5, k3, fk3, s3, q3⟩
    replace e0 := (k3 _ 0 m0).trans e0
    replace f0 := (fk3 _ 0 m0).trans f0
    replace e1 := (k3 _ 1 m0).trans e1
    replace f1 := (fk3 _ 1 m0).trans f1
    replace e2 := (k3 _ 2 m0).trans e2
    replace f2 := (fk3 _ 2 m0).trans f2
    replace e3 := (k3 _ 3 m0).trans e3
    replace f3 := (fk3 _ 3 m0).trans f3
    replace e4 := (k3 _ 0 m1).trans e4
    replace f4 := (fk3 _ 0 m1).trans f4
    replace e5 := (k3 _ 1 m1).trans e5
    replace f5 := (fk3 _ 1 m1).trans f5
    replace i0 := (k3 _ 0 m2).trans i0
    replace i1 := (k3 _ 1 m2).trans i1
    replace i2 := (k3 _ 2 m2).trans i2
    replace i3 := (k3 _ 3 m2).trans i3
    have hw4 : w2.heap.size < w4.heap.size := by rw [s3]; assumption
    have Q5 : Below w.heap.size w w4 := Q4.trans (q3.mono (by omega))
    clear k3 fk3 s3 q3 r4 Q4 hw3
    go_wp2_with fail
    refine Calls.mono (pick_any _ _ a l1 c1 (q + 1 + 1) 4 r5 (by omega) (by omega)) ?_
    rintro e w5 ⟨p2, rfl, p2a, p2b, r6, k3, fk3, s3, q3⟩
    replace e0 := (k3 _ 0 m0).trans e0
    replace f0 := (fk3 _ 0 m0).trans f0
    replace e1 := (k3 _ 1 m0).trans e1
    replace f1 := (fk3 _ 1 m0).trans f1
    replace e2 := (k3 _ 2 m0).trans e2
    replace f2 := (fk3 _ 2 m0).trans f2
    replace e3 := (k3 _ 3 m0).trans e3
    replace f3 := (fk3 _ 3 m0).trans f3
    replace e4 := (k3 _ 0 m1).trans e4
    replace f4 := (fk3 _ 0 m1).trans f4
    replace e5 := (k3 _ 1 m1).trans e5
    replace f5 := (fk3 _ 1 m1).trans f5
    replace i0 := (k3 _ 0 m2).trans i0
    replace i1 := (k3 _ 1 m2).trans i1
    replace i2 := (k3 _ 2 m2).trans i2
    replace i3 := (k3 _ 3 m2).trans i3
    have hw5 : w2.heap.size < w5.heap.size := by rw [s3]; assumption
    have Q6 : Below w.heap.size w w5 := Q5.trans (q3.mono (by omega))
    clear k3 fk3 s3 q3 r5 Q5 hw4
    clear r6
    have g1 : -18 ≤ p1 * x ∧ p1 * x ≤ 18 := small_mul ⟨p1a, p1b⟩ hx
    have g2 : -18 ≤ p2 * z ∧ p2 * z ≤ 18 := small_mul ⟨p2a, p2b⟩ hz
    have g3 : -18 ≤ p1 * y ∧ p1 * y ≤ 18 := small_mul ⟨p1a, p1b⟩ hy
    have g4 : -18 ≤ p2 * u ∧ p2 * u ≤ 18 := small_mul ⟨p2a, p2b⟩ hu
    have vp1x : IntKind.i64.wrap (p1 * x) = p1 * x := IntWalk.i64_in _ (by omega)
    have vp2z : IntKind.i64.wrap (p2 * z) = p2 * z := IntWalk.i64_in _ (by omega)
    have vp1y : IntKind.i64.wrap (p1 * y) = p1 * y := IntWalk.i64_in _ (by omega)
    have vp2u : IntKind.i64.wrap (p2 * u) = p2 * u := IntWalk.i64_in _ (by omega)
    have va : IntKind.i64.wrap (p1 * x + p2 * z) = p1 * x + p2 * z := IntWalk.i64_in _ (by omega)
    have vb : IntKind.i64.wrap (p1 * y + p2 * u) = p1 * y + p2 * u := IntWalk.i64_in _ (by omega)
    have n0 : w.heap.size ≠ w2.heap.size := by omega
    have n1 : w.heap.size + 1 ≠ w2.heap.size := by omega
    clear hx hy hz hu p1a p1b p2a p2b t0 t1 g1 g2 g3 g4
    go_upto_region 6 with fail
    go_region_held3 (fun w' => w'.cell? ⟨w2.heap.size, 0, none⟩ = some (.int .i64 x) ∧ w'.cell? ⟨w2.heap.size, 1, none⟩ = some (.int .i64 y) ∧ w'.cell? ⟨w2.heap.size, 2, none⟩ = some (.int .i64 z) ∧ w'.cell? ⟨w2.heap.size, 3, none⟩ = some (.int .i64 u) ∧ Below w.heap.size w w')
      ((refine ⟨?_, ?_, ?_, ?_, ?_⟩; (first | go_keep | ((repeat (first | rw [World.cell?_setCell_far _ _ _ _ n1] | rw [World.cell?_setCell_far _ _ _ _ n0])); assumption)); (first | go_keep | ((repeat (first | rw [World.cell?_setCell_far _ _ _ _ n1] | rw [World.cell?_setCell_far _ _ _ _ n0])); assumption)); (first | go_keep | ((repeat (first | rw [World.cell?_setCell_far _ _ _ _ n1] | rw [World.cell?_setCell_far _ _ _ _ n0])); assumption)); (first | go_keep | ((repeat (first | rw [World.cell?_setCell_far _ _ _ _ n1] | rw [World.cell?_setCell_far _ _ _ _ n0])); assumption)); (go_grown; done)))
      (fail)
    all_goals go_wp2
    all_goals refine bodyPost_ret (by simp [results, Tryd.results58, go_sem, *]; try rfl) rfl ?_
    all_goals exact ⟨_, _, _, _, _, _, rfl, by have := Q6.size; go_grown⟩
  · have tb : (t == 0) = false := by simpa using ht
    go_upto_region 7 with fail
    refine wp_region_any (by kernel_rfl) ?_
    try (change wpAny _ _ _ _ _ _ _ (World.drew _))
    refine wpAny_take (i := 1) (v := ?_) rfl (by kernel_rfl) (by kernel_rfl) (by kernel_rfl) (fun _ _ _ h => h) (Or.inl ⟨by rfl, ?_⟩) ?_
    rotate_left
    focus (intro w0; go_simp; try with_reducible rfl)
    refine wpAny_ready (rs := [0, 2]) (by kernel_rfl) (by simp) (AllReady.cons rfl (fun K hK => ?_) (AllReady.cons rfl (fun K hK => ?_) (AllReady.nil)))
    focus
      go_simp
      refine hK _ _ ?_
      clear hK K
      refine wpAny_ready (rs := [2]) (by kernel_rfl) (by simp) (AllReady.cons rfl (fun K hK => ?_) (AllReady.nil))
      go_simp
      (refine Calls.mono (l91Vec_any _ (w.heap.size + 1 + 1) a l1 c1 (q + 1) (r4.below (by go_grown)) (by omega)) ?_; rintro e w5 ⟨x2, y2, q2, rfl, _, _, _, _, r5, b4, K4⟩; replace e0 := (K4.1 (w.heap.size) 0 (by (try simp only [World.size_drew]); omega) (by omega)).1.trans e0; replace f0 := (K4.1 (w.heap.size) 0 (by (try simp only [World.size_drew]); omega) (by omega)).2.trans f0; replace e1 := (K4.1 (w.heap.size) 1 (by (try simp only [World.size_drew]); omega) (by omega)).1.trans e1; replace f1 := (K4.1 (w.heap.size) 1 (by (try simp only [World.size_drew]); omega) (by omega)).2.trans f1; replace e2 := (K4.1 (w.heap.size) 2 (by (try simp only [World.size_drew]); omega) (by omega)).1.trans e2; replace f2 := (K4.1 (w.heap.size) 2 (by (try simp only [World.size_drew]); omega) (by omega)).2.trans f2; replace e3 := (K4.1 (w.heap.size) 3 (by (try simp only [World.size_drew]); omega) (by omega)).1.trans e3; replace f3 := (K4.1 (w.heap.size) 3 (by (try simp only [World.size_drew]); omega) (by omega)).2.trans f3; replace e4 := (K4.1 (w.heap.size + 1) 0 (by (try simp only [World.size_drew]); omega) (by omega)).1.trans e4; replace f4 := (K4.1 (w.heap.size + 1) 0 (by (try simp only [World.size_drew]); omega) (by omega)).2.trans f4; replace e5 := (K4.1 (w.heap.size + 1) 1 (by (try simp only [World.size_drew]); omega) (by omega)).1.trans e5; replace f5 := (K4.1 (w.heap.size + 1) 1 (by (try simp only [World.size_drew]); omega) (by omega)).2.trans f5; replace i0 := (K4.1 (w2.heap.size) 0 (by (try simp only [World.size_drew]); omega) (by omega)).1.trans i0; replace i1 := (K4.1 (w2.heap.size) 1 (by (try simp only [World.size_drew]); omega) (by omega)).1.trans i1; replace i2 := (K4.1 (w2.heap.size) 2 (by (try simp only [World.size_drew]); omega) (by omega)).1.trans i2; replace i3 := (K4.1 (w2.heap.size) 3 (by (try simp only [World.size_drew]); omega) (by omega)).1.trans i3; have Q5 : Below w.heap.size w w5 := Q4.trans ((⟨b4.os, b4.tape, b4.output, b4.size, b4.block⟩ : Below (w.heap.size + 1 + 1) w3 w5).mono (by omega)); clear K4 b4 r4 Q4 r5)
      refine hK _ _ ?_
      clear hK K
      refine wpAny_ready (rs := [3]) (by kernel_rfl) (by simp) (AllReady.cons rfl (fun K hK => ?_) (AllReady.nil))
      go_simp
      refine hK _ _ ?_
      clear hK K
      refine wpAny_seq 4 rfl (by kernel_rfl) ?_
      simp only [List.drop_succ_cons, List.drop_zero]
    rotate_left 1
    focus
      go_simp
      (refine Calls.mono (l91Vec_any _ (w.heap.size + 1 + 1) a l1 c1 (q + 1) (r4.below (by go_grown)) (by omega)) ?_; rintro e w5 ⟨x2, y2, q2, rfl, _, _, _, _, r5, b4, K4⟩; replace e0 := (K4.1 (w.heap.size) 0 (by (try simp only [World.size_drew]); omega) (by omega)).1.trans e0; replace f0 := (K4.1 (w.heap.size) 0 (by (try simp only [World.size_drew]); omega) (by omega)).2.trans f0; replace e1 := (K4.1 (w.heap.size) 1 (by (try simp only [World.size_drew]); omega) (by omega)).1.trans e1; replace f1 := (K4.1 (w.heap.size) 1 (by (try simp only [World.size_drew]); omega) (by omega)).2.trans f1; replace e2 := (K4.1 (w.heap.size) 2 (by (try simp only [World.size_drew]); omega) (by omega)).1.trans e2; replace f2 := (K4.1 (w.heap.size) 2 (by (try simp only [World.size_drew]); omega) (by omega)).2.trans f2; replace e3 := (K4.1 (w.heap.size) 3 (by (try simp only [World.size_drew]); omega) (by omega)).1.trans e3; replace f3 := (K4.1 (w.heap.size) 3 (by (try simp only [World.size_drew]); omega) (by omega)).2.trans f3; replace e4 := (K4.1 (w.heap.size + 1) 0 (by (try simp only [World.size_drew]); omega) (by omega)).1.trans e4; replace f4 := (K4.1 (w.heap.size + 1) 0 (by (try simp only [World.size_drew]); omega) (by omega)).2.trans f4; replace e5 := (K4.1 (w.heap.size + 1) 1 (by (try simp only [World.size_drew]); omega) (by omega)).1.trans e5; replace f5 := (K4.1 (w.heap.size + 1) 1 (by (try simp only [World.size_drew]); omega) (by omega)).2.trans f5; replace i0 := (K4.1 (w2.heap.size) 0 (by (try simp only [World.size_drew]); omega) (by omega)).1.trans i0; replace i1 := (K4.1 (w2.heap.size) 1 (by (try simp only [World.size_drew]); omega) (by omega)).1.trans i1; replace i2 := (K4.1 (w2.heap.size) 2 (by (try simp only [World.size_drew]); omega) (by omega)).1.trans i2; replace i3 := (K4.1 (w2.heap.size) 3 (by (try simp only [World.size_drew]); omega) (by omega)).1.trans i3; have Q5 : Below w.heap.size w w5 := Q4.trans ((⟨b4.os, b4.tape, b4.output, b4.size, b4.block⟩ : Below (w.heap.size + 1 + 1) w3 w5).mono (by omega)); clear K4 b4 r4 Q4 r5)
      refine hK _ _ ?_
      clear hK K
      refine wpAny_ready (rs := [0]) (by kernel_rfl) (by simp) (AllReady.cons rfl (fun K hK => ?_) (AllReady.nil))
      go_simp
      refine hK _ _ ?_
      clear hK K
      refine wpAny_ready (rs := [3]) (by kernel_rfl) (by simp) (AllReady.cons rfl (fun K hK => ?_) (AllReady.nil))
      go_simp
      refine hK _ _ ?_
      clear hK K
      refine wpAny_seq 4 rfl (by kernel_rfl) ?_
      simp only [List.drop_succ_cons, List.drop_zero]
    all_goals
      have hQs := Q5.size
      go_wp2
      refine bodyPost_ret (by simp [results, Tryd.results58, go_sem, *]; try rfl) rfl ?_
      exact ⟨_, _, _, _, _, _, rfl, by go_grown⟩
set_option maxHeartbeats 2000000 in
theorem drawConeHas_any (w : World) (a : Option Addr) (len cap : Nat) (h : Bytes w a len cap) :
    Calls Tryd.prog 21 #[.slice a len cap] w (ConeVec w) := by
  go_enter Tryd.func21, Tryd.ntmps21
  go_wp2_with fail
  refine Calls.mono (l91Given_any _ a len cap (h.below (by go_grown))) ?_
  rintro e w1 ⟨x, y, z, u, p, q, rfl, hb1⟩
  obtain ⟨hc1, hf1⟩ := bcell hb1; have hz1 := bsize hb1
  have e0 : w1.cell? ⟨w.heap.size, 0, none⟩ = some (.int .i64 0) := (hb1.cell (p := ⟨w.heap.size, 0, none⟩) (by simp only [World.size_alloc]; omega)).trans (by simp)
  have e1 : w1.cell? ⟨w.heap.size, 1, none⟩ = some (.int .i64 0) := (hb1.cell (p := ⟨w.heap.size, 1, none⟩) (by simp only [World.size_alloc]; omega)).trans (by simp)
  have e2 : w1.cell? ⟨w.heap.size, 2, none⟩ = some (.int .i64 0) := (hb1.cell (p := ⟨w.heap.size, 2, none⟩) (by simp only [World.size_alloc]; omega)).trans (by simp)
  have e3 : w1.cell? ⟨w.heap.size, 3, none⟩ = some (.int .i64 0) := (hb1.cell (p := ⟨w.heap.size, 3, none⟩) (by simp only [World.size_alloc]; omega)).trans (by simp)
  have e4 : w1.cell? ⟨w.heap.size + 1, 0, none⟩ = some (.int .i64 0) := (hb1.cell (p := ⟨w.heap.size + 1, 0, none⟩) (by simp only [World.size_alloc]; omega)).trans (by simp)
  have e5 : w1.cell? ⟨w.heap.size + 1, 1, none⟩ = some (.int .i64 0) := (hb1.cell (p := ⟨w.heap.size + 1, 1, none⟩) (by simp only [World.size_alloc]; omega)).trans (by simp)
  go_wp2
  have hB := belowTo (a := w) (by go_grown) hb1
  have hS := hB.size
  refine bodyPost_ret (by simp [results, Tryd.results21, go_sem, e0, e1, e2, e3, e4, e5]; try rfl) rfl ?_
  clear hb1
  exact ⟨_, _, _, _, _, _, rfl, by go_grown⟩
set_option maxHeartbeats 2000000 in
theorem drawConeParts_any (w : World) (a : Option Addr) (len cap : Nat) (h : Bytes w a len cap) :
    Calls Tryd.prog 43 #[.slice a len cap] w (ConeVec w) := by
  go_enter Tryd.func43, Tryd.ntmps43
  go_wp2_with fail
  refine Calls.mono (l91Given_any _ a len cap (h.below (by go_grown))) ?_
  rintro e w1 ⟨x, y, z, u, p, q, rfl, hb1⟩
  obtain ⟨hc1, hf1⟩ := bcell hb1; have hz1 := bsize hb1
  have e0 : w1.cell? ⟨w.heap.size, 0, none⟩ = some (.int .i64 0) := (hb1.cell (p := ⟨w.heap.size, 0, none⟩) (by simp only [World.size_alloc]; omega)).trans (by simp)
  have e1 : w1.cell? ⟨w.heap.size, 1, none⟩ = some (.int .i64 0) := (hb1.cell (p := ⟨w.heap.size, 1, none⟩) (by simp only [World.size_alloc]; omega)).trans (by simp)
  have e2 : w1.cell? ⟨w.heap.size, 2, none⟩ = some (.int .i64 0) := (hb1.cell (p := ⟨w.heap.size, 2, none⟩) (by simp only [World.size_alloc]; omega)).trans (by simp)
  have e3 : w1.cell? ⟨w.heap.size, 3, none⟩ = some (.int .i64 0) := (hb1.cell (p := ⟨w.heap.size, 3, none⟩) (by simp only [World.size_alloc]; omega)).trans (by simp)
  have e4 : w1.cell? ⟨w.heap.size + 1, 0, none⟩ = some (.int .i64 0) := (hb1.cell (p := ⟨w.heap.size + 1, 0, none⟩) (by simp only [World.size_alloc]; omega)).trans (by simp)
  have e5 : w1.cell? ⟨w.heap.size + 1, 1, none⟩ = some (.int .i64 0) := (hb1.cell (p := ⟨w.heap.size + 1, 1, none⟩) (by simp only [World.size_alloc]; omega)).trans (by simp)
  go_wp2
  have hB := belowTo (a := w) (by go_grown) hb1
  have hS := hB.size
  refine bodyPost_ret (by simp [results, Tryd.results43, go_sem, e0, e1, e2, e3, e4, e5]; try rfl) rfl ?_
  clear hb1
  exact ⟨_, _, _, _, _, _, rfl, by go_grown⟩
end Go.Proofs.YtjlobpccnplebaaDoor
