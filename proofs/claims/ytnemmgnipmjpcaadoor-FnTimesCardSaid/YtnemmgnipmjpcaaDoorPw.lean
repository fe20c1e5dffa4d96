/- The draws of the promises of chapter 1, two more: a vector and a number; a matrix and a vector; two matrices. -/
import Derived.Test.YtnemmgnipmjpcaaDoorPv
import Derived.Test.YtnemmgnipmjpcaaDoorRg
namespace Go.Proofs.YtnemmgnipmjpcaaDoor
open Go.RowKit

def DrewMatR (w : World) (B : Nat) (a : Option Addr) (len cap : Nat) (p : Int) (e : Ending) (w' : World) : Prop := ∃ x y z u p' : Int, e = .returned (.agg #[.int .i64 (x), .int .i64 (y), .int .i64 (z), .int .i64 (u)]) ∧ Reads w' B a len cap p' ∧ p' ≤ p + 10 ∧ Below B w w' ∧ Kept w.heap.size B w w'
set_option maxHeartbeats 4000000 in
theorem l91MatR_any (w : World) (B : Nat) (a : Option Addr) (len cap : Nat) (p : Int) (h : Reads w B a len cap p) (hp : p ≤ 90000) :
    Calls Tryd.prog 65 #[.pointer (some ⟨B, 0, none⟩)] w (DrewMatR w B a len cap p) := by
  have hB : B < w.heap.size := h.2.2.2.2.1
  have b0 : w.heap.size ≠ B := by omega
  have b1 : w.heap.size + 1 ≠ B := by omega
  go_enter Tryd.func65, Tryd.ntmps65
  go_wp2_with fail
  refine Calls.mono (pick_any _ B a len cap p 4 (h.below (by go_grown)) (by omega) (by omega)) ?_
  rintro e w1 ⟨n, rfl, n0, n4, r1, k1, f1, s1, q1⟩
  have Q1 : Below B w w1 := Below.trans (by go_grown) q1
  have R1 : MatAt w1 w.heap.size 0 0 0 0 := by
    refine ⟨⟨?_, ?_, ?_, ?_⟩, ?_, ?_, ?_, ?_⟩
    all_goals first | (rw [k1 _ _ b0]; simp; done) | (rw [f1 _ _ b0]; simp; done)
  have M1 : MatAt w1 (w.heap.size + 1) 1 0 0 1 := by
    refine ⟨⟨?_, ?_, ?_, ?_⟩, ?_, ?_, ?_, ?_⟩
    all_goals first | (rw [k1 _ _ b1]; simp; done) | (rw [f1 _ _ b1]; simp; done)
  have S1 : w1.heap.size = w.heap.size + 1 + 1 := by rw [s1]; simp
  have K1 : Kept w.heap.size B w w1 := (Kept.of_below (by go_grown)).trans (Kept.of_pick k1 f1 (by rw [s1]))
  clear k1 f1 s1 q1 h
  have HM := Lib.hid M1
  have HR := Lib.hid R1
  clear M1 R1
  go_wp2
  go_loopw [5] (fun s5 wr => ∃ (k : Nat) (x y z u q : Int), s5 = .int .i64 k ∧ (k : Int) ≤ n ∧ ((-(threes k) ≤ x ∧ x ≤ threes k) ∧ (-(threes k) ≤ y ∧ y ≤ threes k) ∧ (-(threes k) ≤ z ∧ z ≤ threes k) ∧ (-(threes k) ≤ u ∧ u ≤ threes k)) ∧ Hid (MatAt wr (w.heap.size + 1) x y z u) ∧ Hid (MatAt wr w.heap.size 0 0 0 0) ∧ wr.heap.size = w.heap.size + 1 + 1 ∧ Reads wr B a len cap q ∧ q ≤ p + 1 + k ∧ Below B w wr ∧ Kept w.heap.size B w wr) (fun s5 _ => (n - intOf s5).toNat)
  case atStart => exact ⟨0, 1, 0, 0, 1, p + 1, rfl, by omega, by decide, HM, HR, S1, r1, by omega, Q1, K1⟩
  case round =>
    obtain ⟨k, x, y, z, u, q, rfl, hk, hbd, HM', HR', hS, r, hq, hQ, hK⟩ := hrel
    obtain ⟨⟨x0, x1⟩, ⟨y0, y1⟩, ⟨z0, z1⟩, ⟨u0, u1⟩⟩ := hbd
    clear HM HR r1 Q1 S1 K1
    by_cases hlt : (k : Int) < n
    · obtain ⟨t1, t2, t3⟩ := threes_succ (k := k) (by omega)
      go_wp2_with fail
      refine Calls.mono (pick_any _ B a len cap q 5 r (by omega) (by omega)) ?_
      rintro e w2 ⟨v, rfl, v0, v5, r2, k2, f2, s2, q2⟩
      have hM2 := HM'.out.kept (k2 _ · b1) (f2 _ · b1)
      have hR2 := Lib.hid (HR'.out.kept (k2 _ · b0) (f2 _ · b0))
      have hM2' := hM2
      obtain ⟨⟨c0, c1, c2, c3⟩, e0, e1, e2, e3⟩ := hM2
      have hv : -2 ≤ v - 2 ∧ v - 2 ≤ 2 := by omega
      obtain ⟨m0, m1⟩ := mul_two (c := z) hv ⟨z0, z1⟩
      obtain ⟨m2, m3⟩ := mul_two (c := u) hv ⟨u0, u1⟩
      have HM2 := Lib.hid hM2'
      have hS2 : w2.heap.size = w.heap.size + 1 + 1 := by rw [s2]; exact hS
      have hK2 := Lib.hid (hK.trans (Kept.of_pick k2 f2 s2))
      have hQ2 := hQ.trans q2
      clear k2 f2 s2 q2 HM' HR' r hQ hM2' hS hK
      generalize hT : threes k = T at *
      generalize hT' : threes (k + 1) = T' at *
      go_wp2
      go_roundw
      case rel => exact ⟨k + 1, -z, -u, x + (v - 2) * z, y + (v - 2) * u, q + 1, by go_num, by omega, ⟨⟨by omega, by omega⟩, ⟨by omega, by omega⟩, ⟨by omega, by omega⟩, ⟨by omega, by omega⟩⟩, Lib.hid (HM2.out.put _ _ _ _), Lib.hid (hR2.out.other (by omega) _ _ _ _), by simpa using hS2, r2.put (by omega) _ _ _ _, by omega, below_put hQ2 (by omega) _ _ _ _, hK2.out.trans (Kept.of_below (below_put (Below.refl _ _) (by omega) _ _ _ _))⟩
      case measure => simp [intOf]; omega
    · obtain ⟨t2, t3⟩ := threes_le k
      go_wp2_with fail
      refine Calls.mono (pick_any _ B a len cap q 12 r (by omega) (by omega)) ?_
      rintro e w2 ⟨v, rfl, v0, v5, r2, k2, f2, s2, q2⟩
      have hM2 := HM'.out.kept (k2 _ · b1) (f2 _ · b1)
      have hR2 := HR'.out.kept (k2 _ · b0) (f2 _ · b0)
      obtain ⟨⟨c0, c1, c2, c3⟩, e0, e1, e2, e3⟩ := hM2
      obtain ⟨⟨d0, d1, d2, d3⟩, g0, g1, g2, g3⟩ := hR2
      have hQ2 := hQ.trans q2
      have hK2 := Lib.hid (hK.trans (Kept.of_pick k2 f2 s2))
      have hS2 : w2.heap.size = w.heap.size + 1 + 1 := by rw [s2]; exact hS
      have hkn : (k : Int) ≤ 4 := by omega
      have HRd := Lib.hid r2
      clear k2 f2 s2 q2 HM' HR' r hQ r2 hK hS
      generalize hT : threes k = T at *
      obtain hv | hv | hv | hv | ⟨hv0, hv1, hv2, hv3⟩ : v = 0 ∨ v = 1 ∨ v = 2 ∨ v = 3 ∨ ((v == 0) = false ∧ (v == 1) = false ∧ (v == 2) = false ∧ (v == 3) = false) := by
        by_cases h0 : v = 0
        · exact .inl h0
        by_cases h1 : v = 1
        · exact .inr (.inl h1)
        by_cases h2 : v = 2
        · exact .inr (.inr (.inl h2))
        by_cases h3 : v = 3
        · exact .inr (.inr (.inr (.inl h3)))
        · exact .inr (.inr (.inr (.inr ⟨by simpa using h0, by simpa using h1, by simpa using h2, by simpa using h3⟩)))
      all_goals try subst hv
      all_goals go_wp2
      all_goals (refine bodyPost_ret (by simp [results, Tryd.results65, go_sem, *]; try rfl) rfl ?_)
      all_goals exact ⟨_, _, _, _, _, rfl, HRd.out.below (by go_grown), by omega, by go_grown, hK2.out.trans (Kept.of_below (by go_grown))⟩

def VecNum (w : World) (e : Ending) (w' : World) : Prop := ∃ x y n : Int, e = .returned (.tuple #[.agg #[.int .i64 (x), .int .i64 (y)], .int .i64 n]) ∧ Below w.heap.size w w'
set_option maxHeartbeats 4000000 in
theorem drawVecTimes_any (w : World) (a : Option Addr) (len cap : Nat) (h : Bytes w a len cap) :
    Calls Tryd.prog 21 #[.slice a len cap] w (VecNum w) := by
  go_enter Tryd.func21, Tryd.ntmps21
  go_wp2_with fail
  refine Calls.mono (l6Open_any _ a len cap (h.below (by go_grown))) ?_
  rintro e w1 ⟨l1, c1, rfl, r1, hb1, hs1⟩
  rw [World.size_alloc] at r1 hs1
  have hA : Below w.heap.size w w1 := belowTo (by go_grown) hb1
  have e0 : w1.cell? ⟨w.heap.size, 0, none⟩ = some (.int .i64 0) := (hb1.cell (p := ⟨w.heap.size, 0, none⟩) (by simp)).trans (by simp)
  have e1 : w1.cell? ⟨w.heap.size, 1, none⟩ = some (.int .i64 0) := (hb1.cell (p := ⟨w.heap.size, 1, none⟩) (by simp)).trans (by simp)
  have f0 : w1.frozen? ⟨w.heap.size, 0, none⟩ = false := (hb1.frozen (p := ⟨w.heap.size, 0, none⟩) (by simp)).trans (by simp)
  have f1 : w1.frozen? ⟨w.heap.size, 1, none⟩ = false := (hb1.frozen (p := ⟨w.heap.size, 1, none⟩) (by simp)).trans (by simp)
  clear hb1 h
  go_wp2_with fail
  refine Calls.mono (l91Vec_any _ (w.heap.size + 1) a l1 c1 0 r1 (by omega)) ?_
  rintro e w2 ⟨x, y, q, rfl, _, _, _, hq, r2, b2, K2⟩
  replace e0 := (K2.1 (w.heap.size) 0 (by omega) (by omega)).1.trans e0
  replace e1 := (K2.1 (w.heap.size) 1 (by omega) (by omega)).1.trans e1
  replace f0 := (K2.1 (w.heap.size) 0 (by omega) (by omega)).2.trans f0
  replace f1 := (K2.1 (w.heap.size) 1 (by omega) (by omega)).2.trans f1
  have Q2 : Below w.heap.size w w2 := hA.trans (b2.mono (by omega))
  have s2 : w.heap.size + 1 < w2.heap.size := r2.2.2.2.2.1
  have m0 : w.heap.size ≠ w.heap.size + 1 := by omega
  have m1 : w2.heap.size ≠ w.heap.size + 1 := by omega
  have m2 : ¬ w.heap.size = w2.heap.size := by omega
  have hz : Below (w.heap.size + 1 + 1) w2 (w2.alloc (.cells #[.int .i64 x, .int .i64 y] 24)) := by go_grown
  have e0' := (hz.cell (p := ⟨w.heap.size, 0, none⟩) (by simp; omega)).trans e0
  have e1' := (hz.cell (p := ⟨w.heap.size, 1, none⟩) (by simp; omega)).trans e1
  have f0' := (hz.frozen (p := ⟨w.heap.size, 0, none⟩) (by simp; omega)).trans f0
  have f1' := (hz.frozen (p := ⟨w.heap.size, 1, none⟩) (by simp; omega)).trans f1
  have i0 : (w2.alloc (.cells #[.int .i64 x, .int .i64 y] 24)).cell? ⟨w2.heap.size, 0, none⟩ = some (.int .i64 x) := by simp
  have i1 : (w2.alloc (.cells #[.int .i64 x, .int .i64 y] 24)).cell? ⟨w2.heap.size, 1, none⟩ = some (.int .i64 y) := by simp
  have r3 := r2.below hz
  have Q3 : Below w.heap.size w (w2.alloc (.cells #[.int .i64 x, .int .i64 y] 24)) := by go_grown
  have s3 : (w2.alloc (.cells #[.int .i64 x, .int .i64 y] 24)).heap.size = w2.heap.size + 1 := by simp
  clear K2 b2 r1 hA Q2 e0 e1 f0 f1 r2 hz
  go_upto_region 3 with fail
  generalize (w2.alloc (.cells #[.int .i64 x, .int .i64 y] 24)) = w3 at *
  refine wp_region_any (by kernel_rfl) ?_
  try (change wpAny _ _ _ _ _ _ _ (World.drew _))
  refine wpAny_take (i := 1) (v := ?_) rfl (by kernel_rfl) (by kernel_rfl) (by kernel_rfl) (fun _ _ _ h => h) (Or.inl ⟨by rfl, ?_⟩) ?_
  rotate_left
  focus (intro w0; go_simp; try with_reducible rfl)
  refine wpAny_take (i := 4) (v := ?_) rfl (by kernel_rfl) (by kernel_rfl) (by kernel_rfl) (fun _ _ _ h => h) (Or.inl ⟨by rfl, ?_⟩) ?_
  rotate_left
  focus (intro w0; go_simp; try with_reducible rfl)
  refine wpAny_ready (rs := [0, 2]) (by kernel_rfl) (by simp) (AllReady.cons rfl (fun K hK => ?_) (AllReady.cons rfl (fun K hK => ?_) (AllReady.nil)))
  focus
    go_simp
    refine hK _ _ ?_
    clear hK K
    refine wpAny_ready (rs := [2]) (by kernel_rfl) (by simp) (AllReady.cons rfl (fun K hK => ?_) (AllReady.nil))
    go_simp
    (refine Calls.mono (pick_any _ _ a l1 c1 q 13 (r3.below (by go_grown)) (by omega) (by omega)) ?_; rintro e w4 ⟨n1, rfl, n0, n2, r4, k4, f4, s4, q4⟩; replace e0' := (k4 _ 0 m0).trans e0'; replace e1' := (k4 _ 1 m0).trans e1'; replace f0' := (f4 _ 0 m0).trans f0'; replace f1' := (f4 _ 1 m0).trans f1'; replace i0 := (k4 _ 0 m1).trans i0; replace i1 := (k4 _ 1 m1).trans i1; have Q4 : Below w.heap.size w w4 := Q3.trans ((⟨q4.os, q4.tape, q4.output, q4.size, q4.block⟩ : Below (w.heap.size + 1) w3 w4).mono (by omega)); clear k4 f4 q4 r3 Q3)
    refine hK _ _ ?_
    clear hK K
    refine wpAny_take (i := 3) (v := ?_) rfl (by kernel_rfl) (by kernel_rfl) (by kernel_rfl) (fun _ _ _ h => h) (Or.inl ⟨by rfl, ?_⟩) ?_
    rotate_left
    focus (intro w0; go_simp; try with_reducible rfl)
    refine wpAny_ready (rs := [5]) (by kernel_rfl) (by simp) (AllReady.cons rfl (fun K hK => ?_) (AllReady.nil))
    go_simp
    (refine Calls.mono (pick_any _ _ a l1 c1 (q + 1) 20 (r4.below (by go_grown)) (by omega) (by omega)) ?_; rintro e w5 ⟨n3, rfl, n4, n5, r5, k5, f5, s5, q5⟩; replace e0' := (k5 _ 0 m0).trans e0'; replace e1' := (k5 _ 1 m0).trans e1'; replace f0' := (f5 _ 0 m0).trans f0'; replace f1' := (f5 _ 1 m0).trans f1'; replace i0 := (k5 _ 0 m1).trans i0; replace i1 := (k5 _ 1 m1).trans i1; have Q5 : Below w.heap.size w w5 := Q4.trans (q5.mono (by omega)); have e9 : n3.tdiv 19 = n3 / 19 := Int.tdiv_eq_ediv_of_nonneg n4; clear k5 f5 q5 r4 Q4)
    refine hK _ _ ?_
    clear hK K
    refine wpAny_take (i := 6) (v := ?_) rfl (by kernel_rfl) (by kernel_rfl) (by kernel_rfl) (fun _ _ _ h => h) (Or.inl ⟨by rfl, ?_⟩) ?_
    rotate_left
    focus (intro w0; go_simp; try with_reducible rfl)
    refine wpAny_take (i := 7) (v := ?_) rfl (by kernel_rfl) (by kernel_rfl) (by kernel_rfl) (fun _ _ _ h => h) (Or.inl ⟨by rfl, ?_⟩) ?_
    rotate_left
    focus (intro w0; go_simp; try with_reducible rfl)
    refine wpAny_take (i := 8) (v := ?_) rfl (by kernel_rfl) (by kernel_rfl) (by kernel_rfl) (fun _ _ _ h => h) (Or.inl ⟨by rfl, ?_⟩) ?_
    rotate_left
    focus (intro w0; go_simp; try with_reducible rfl)
    refine wpAny_ready (rs := [9]) (by kernel_rfl) (by simp) (AllReady.cons rfl (fun K hK => ?_) (AllReady.nil))
    go_simp
    refine hK _ _ ?_
    clear hK K
    refine wpAny_seq 10 rfl (by kernel_rfl) ?_
    simp only [List.drop_succ_cons, List.drop_zero]
  rotate_left 1
  focus
    go_simp
    (refine Calls.mono (pick_any _ _ a l1 c1 q 13 (r3.below (by go_grown)) (by omega) (by omega)) ?_; rintro e w4 ⟨n1, rfl, n0, n2, r4, k4, f4, s4, q4⟩; replace e0' := (k4 _ 0 m0).trans e0'; replace e1' := (k4 _ 1 m0).trans e1'; replace f0' := (f4 _ 0 m0).trans f0'; replace f1' := (f4 _ 1 m0).trans f1'; replace i0 := (k4 _ 0 m1).trans i0; replace i1 := (k4 _ 1 m1).trans i1; have Q4 : Below w.heap.size w w4 := Q3.trans ((⟨q4.os, q4.tape, q4.output, q4.size, q4.block⟩ : Below (w.heap.size + 1) w3 w4).mono (by omega)); clear k4 f4 q4 r3 Q3)
    refine hK _ _ ?_
    clear hK K
    refine wpAny_take (i := 3) (v := ?_) rfl (by kernel_rfl) (by kernel_rfl) (by kernel_rfl) (fun _ _ _ h => h) (Or.inl ⟨by rfl, ?_⟩) ?_
    rotate_left
    focus (intro w0; go_simp; try with_reducible rfl)
    refine wpAny_ready (rs := [0, 5]) (by kernel_rfl) (by simp) (AllReady.cons rfl (fun K hK => ?_) (AllReady.cons rfl (fun K hK => ?_) (AllReady.nil)))
    focus
      go_simp
      refine hK _ _ ?_
      clear hK K
      refine wpAny_ready (rs := [5]) (by kernel_rfl) (by simp) (AllReady.cons rfl (fun K hK => ?_) (AllReady.nil))
      go_simp
      (refine Calls.mono (pick_any _ _ a l1 c1 (q + 1) 20 (r4.below (by go_grown)) (by omega) (by omega)) ?_; rintro e w5 ⟨n3, rfl, n4, n5, r5, k5, f5, s5, q5⟩; replace e0' := (k5 _ 0 m0).trans e0'; replace e1' := (k5 _ 1 m0).trans e1'; replace f0' := (f5 _ 0 m0).trans f0'; replace f1' := (f5 _ 1 m0).trans f1'; replace i0 := (k5 _ 0 m1).trans i0; replace i1 := (k5 _ 1 m1).trans i1; have Q5 : Below w.heap.size w w5 := Q4.trans (q5.mono (by omega)); have e9 : n3.tdiv 19 = n3 / 19 := Int.tdiv_eq_ediv_of_nonneg n4; clear k5 f5 q5 r4 Q4)
      refine hK _ _ ?_
      clear hK K
      refine wpAny_take (i := 6) (v := ?_) rfl (by kernel_rfl) (by kernel_rfl) (by kernel_rfl) (fun _ _ _ h => h) (Or.inl ⟨by rfl, ?_⟩) ?_
      rotate_left
      focus (intro w0; go_simp; try with_reducible rfl)
      refine wpAny_take (i := 7) (v := ?_) rfl (by kernel_rfl) (by kernel_rfl) (by kernel_rfl) (fun _ _ _ h => h) (Or.inl ⟨by rfl, ?_⟩) ?_
      rotate_left
      focus (intro w0; go_simp; try with_reducible rfl)
      refine wpAny_take (i := 8) (v := ?_) rfl (by kernel_rfl) (by kernel_rfl) (by kernel_rfl) (fun _ _ _ h => h) (Or.inl ⟨by rfl, ?_⟩) ?_
      rotate_left
      focus (intro w0; go_simp; try with_reducible rfl)
      refine wpAny_ready (rs := [9]) (by kernel_rfl) (by simp) (AllReady.cons rfl (fun K hK => ?_) (AllReady.nil))
      go_simp
      refine hK _ _ ?_
      clear hK K
      refine wpAny_seq 10 rfl (by kernel_rfl) ?_
      simp only [List.drop_succ_cons, List.drop_zero]
    rotate_left 1
    focus
      go_simp
      (refine Calls.mono (pick_any _ _ a l1 c1 (q + 1) 20 (r4.below (by go_grown)) (by omega) (by omega)) ?_; rintro e w5 ⟨n3, rfl, n4, n5, r5, k5, f5, s5, q5⟩; replace e0' := (k5 _ 0 m0).trans e0'; replace e1' := (k5 _ 1 m0).trans e1'; replace f0' := (f5 _ 0 m0).trans f0'; replace f1' := (f5 _ 1 m0).trans f1'; replace i0 := (k5 _ 0 m1).trans i0; replace i1 := (k5 _ 1 m1).trans i1; have Q5 : Below w.heap.size w w5 := Q4.trans (q5.mono (by omega)); have e9 : n3.tdiv 19 = n3 / 19 := Int.tdiv_eq_ediv_of_nonneg n4; clear k5 f5 q5 r4 Q4)
      refine hK _ _ ?_
      clear hK K
      refine wpAny_take (i := 6) (v := ?_) rfl (by kernel_rfl) (by kernel_rfl) (by kernel_rfl) (fun _ _ _ h => h) (Or.inl ⟨by rfl, ?_⟩) ?_
      rotate_left
      focus (intro w0; go_simp; try with_reducible rfl)
      refine wpAny_take (i := 7) (v := ?_) rfl (by kernel_rfl) (by kernel_rfl) (by kernel_rfl) (fun _ _ _ h => h) (Or.inl ⟨by rfl, ?_⟩) ?_
      rotate_left
      focus (intro w0; go_simp; try with_reducible rfl)
      refine wpAny_take (i := 8) (v := ?_) rfl (by kernel_rfl) (by kernel_rfl) (by kernel_rfl) (fun _ _ _ h => h) (Or.inl ⟨by rfl, ?_⟩) ?_
      rotate_left
      focus (intro w0; go_simp; try with_reducible rfl)
      refine wpAny_ready (rs := [0]) (by kernel_rfl) (by simp) (AllReady.cons rfl (fun K hK => ?_) (AllReady.nil))
      go_simp
      refine hK _ _ ?_
      clear hK K
      refine wpAny_ready (rs := [9]) (by kernel_rfl) (by simp) (AllReady.cons rfl (fun K hK => ?_) (AllReady.nil))
      go_simp
      refine hK _ _ ?_
      clear hK K
      refine wpAny_seq 10 rfl (by kernel_rfl) ?_
      simp only [List.drop_succ_cons, List.drop_zero]
  all_goals
    have hQs := Q5.size
    go_wp2
    refine bodyPost_ret (by simp [results, Tryd.results21, go_sem, *]; try rfl) rfl ?_
    exact ⟨_, _, _, rfl, by go_grown⟩
end Go.Proofs.YtnemmgnipmjpcaaDoor
