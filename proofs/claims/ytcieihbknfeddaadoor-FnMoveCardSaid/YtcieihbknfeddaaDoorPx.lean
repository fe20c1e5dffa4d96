/- The draws of the promises of chapter 1: a matrix and a vector; two matrices. -/
import Derived.Test.YtcieihbknfeddaaDoorPw
namespace Go.Proofs.YtcieihbknfeddaaDoor
open Go.RowKit

def MatVec (w : World) (e : Ending) (w' : World) : Prop := ∃ x y z u p q : Int, e = .returned (.tuple #[.agg #[.int .i64 (x), .int .i64 (y), .int .i64 (z), .int .i64 (u)], .agg #[.int .i64 (p), .int .i64 (q)]]) ∧ Below w.heap.size w w'
def TwoMats (w : World) (e : Ending) (w' : World) : Prop := ∃ x y z u p q r s : Int, e = .returned (.tuple #[.agg #[.int .i64 (x), .int .i64 (y), .int .i64 (z), .int .i64 (u)], .agg #[.int .i64 (p), .int .i64 (q), .int .i64 (r), .int .i64 (s)]]) ∧ Below w.heap.size w w'
set_option maxHeartbeats 8000000 in
theorem drawMatMove_any (w : World) (a : Option Addr) (len cap : Nat) (h : Bytes w a len cap) :
    Calls Tryd.prog 19 #[.slice a len cap] w (MatVec w) := by
  go_enter Tryd.func19, Tryd.ntmps19
  go_wp2_with fail
  refine Calls.mono (l6Open_any _ a len cap (h.below (by go_grown))) ?_
  rintro e w1 ⟨l1, c1, rfl, r1, hb1, hs1⟩
  simp only [World.size_alloc] at r1 hs1
  have hA : Below w.heap.size w w1 := belowTo (by go_grown) hb1
  have e0 : w1.cell? ⟨w.heap.size, 0, none⟩ = some (.int .i64 0) := (hb1.cell (p := ⟨w.heap.size, 0, none⟩) (by simp only [World.size_alloc]; omega)).trans (by simp)
  have f0 : w1.frozen? ⟨w.heap.size, 0, none⟩ = false := (hb1.frozen (p := ⟨w.heap.size, 0, none⟩) (by simp only [World.size_alloc]; omega)).trans (by simp)
  have e1 : w1.cell? ⟨w.heap.size, 1, none⟩ = some (.int .i64 0) := (hb1.cell (p := ⟨w.heap.size, 1, none⟩) (by simp only [World.size_alloc]; omega)).trans (by simp)
  have f1 : w1.frozen? ⟨w.heap.size, 1, none⟩ = false := (hb1.frozen (p := ⟨w.heap.size, 1, none⟩) (by simp only [World.size_alloc]; omega)).trans (by simp)
  have e2 : w1.cell? ⟨w.heap.size, 2, none⟩ = some (.int .i64 0) := (hb1.cell (p := ⟨w.heap.size, 2, none⟩) (by simp only [World.size_alloc]; omega)).trans (by simp)
  have f2 : w1.frozen? ⟨w.heap.size, 2, none⟩ = false := (hb1.frozen (p := ⟨w.heap.size, 2, none⟩) (by simp only [World.size_alloc]; omega)).trans (by simp)
  have e3 : w1.cell? ⟨w.heap.size, 3, none⟩ = some (.int .i64 0) := (hb1.cell (p := ⟨w.heap.size, 3, none⟩) (by simp only [World.size_alloc]; omega)).trans (by simp)
  have f3 : w1.frozen? ⟨w.heap.size, 3, none⟩ = false := (hb1.frozen (p := ⟨w.heap.size, 3, none⟩) (by simp only [World.size_alloc]; omega)).trans (by simp)
  have e4 : w1.cell? ⟨w.heap.size + 1, 0, none⟩ = some (.int .i64 0) := (hb1.cell (p := ⟨w.heap.size + 1, 0, none⟩) (by simp only [World.size_alloc]; omega)).trans (by simp)
  have f4 : w1.frozen? ⟨w.heap.size + 1, 0, none⟩ = false := (hb1.frozen (p := ⟨w.heap.size + 1, 0, none⟩) (by simp only [World.size_alloc]; omega)).trans (by simp)
  have e5 : w1.cell? ⟨w.heap.size + 1, 1, none⟩ = some (.int .i64 0) := (hb1.cell (p := ⟨w.heap.size + 1, 1, none⟩) (by simp only [World.size_alloc]; omega)).trans (by simp)
  have f5 : w1.frozen? ⟨w.heap.size + 1, 1, none⟩ = false := (hb1.frozen (p := ⟨w.heap.size + 1, 1, none⟩) (by simp only [World.size_alloc]; omega)).trans (by simp)
  clear hb1 h
  go_wp2_with fail
  refine Calls.mono (l91MatR_any _ (w.heap.size + 1 + 1) a l1 c1 0 r1 (by omega)) ?_
  rintro e w2 ⟨x, y, z, u, q, rfl, r2, hq, b2, K2⟩
  replace e0 := (K2.1 (w.heap.size) 0 (by omega) (by omega)).1.trans e0
  replace f0 := (K2.1 (w.heap.size) 0 (by omega) (by omega)).2.trans f0
  replace e1 := (K2.1 (w.heap.size) 1 (by omega) (by omega)).1.trans e1
  replace f1 := (K2.1 (w.heap.size) 1 (by omega) (by omega)).2.trans f1
  replace e2 := (K2.1 (w.heap.size) 2 (by omega) (by omega)).1.trans e2
  replace f2 := (K2.1 (w.heap.size) 2 (by omega) (by omega)).2.trans f2
  replace e3 := (K2.1 (w.heap.size) 3 (by omega) (by omega)).1.trans e3
  replace f3 := (K2.1 (w.heap.size) 3 (by omega) (by omega)).2.trans f3
  replace e4 := (K2.1 (w.heap.size + 1) 0 (by omega) (by omega)).1.trans e4
  replace f4 := (K2.1 (w.heap.size + 1) 0 (by omega) (by omega)).2.trans f4
  replace e5 := (K2.1 (w.heap.size + 1) 1 (by omega) (by omega)).1.trans e5
  replace f5 := (K2.1 (w.heap.size + 1) 1 (by omega) (by omega)).2.trans f5
  have Q2 : Below w.heap.size w w2 := hA.trans (b2.mono (by omega))
  have s2 : w.heap.size + 1 + 1 < w2.heap.size := r2.2.2.2.2.1
  have hz : Below (w.heap.size + 1 + 1 + 1) w2 (w2.alloc (.cells #[.int .i64 x, .int .i64 y, .int .i64 z, .int .i64 u] 24)) := by go_grown
  replace e0 := (hz.cell (p := ⟨w.heap.size, 0, none⟩) (by simp <;> omega)).trans e0
  replace f0 := (hz.frozen (p := ⟨w.heap.size, 0, none⟩) (by simp <;> omega)).trans f0
  replace e1 := (hz.cell (p := ⟨w.heap.size, 1, none⟩) (by simp <;> omega)).trans e1
  replace f1 := (hz.frozen (p := ⟨w.heap.size, 1, none⟩) (by simp <;> omega)).trans f1
  replace e2 := (hz.cell (p := ⟨w.heap.size, 2, none⟩) (by simp <;> omega)).trans e2
  replace f2 := (hz.frozen (p := ⟨w.heap.size, 2, none⟩) (by simp <;> omega)).trans f2
  replace e3 := (hz.cell (p := ⟨w.heap.size, 3, none⟩) (by simp <;> omega)).trans e3
  replace f3 := (hz.frozen (p := ⟨w.heap.size, 3, none⟩) (by simp <;> omega)).trans f3
  replace e4 := (hz.cell (p := ⟨w.heap.size + 1, 0, none⟩) (by simp <;> omega)).trans e4
  replace f4 := (hz.frozen (p := ⟨w.heap.size + 1, 0, none⟩) (by simp <;> omega)).trans f4
  replace e5 := (hz.cell (p := ⟨w.heap.size + 1, 1, none⟩) (by simp <;> omega)).trans e5
  replace f5 := (hz.frozen (p := ⟨w.heap.size + 1, 1, none⟩) (by simp <;> omega)).trans f5
  have i0 : (w2.alloc (.cells #[.int .i64 x, .int .i64 y, .int .i64 z, .int .i64 u] 24)).cell? ⟨w2.heap.size, 0, none⟩ = some (.int .i64 x) := by simp
  have i1 : (w2.alloc (.cells #[.int .i64 x, .int .i64 y, .int .i64 z, .int .i64 u] 24)).cell? ⟨w2.heap.size, 1, none⟩ = some (.int .i64 y) := by simp
  have i2 : (w2.alloc (.cells #[.int .i64 x, .int .i64 y, .int .i64 z, .int .i64 u] 24)).cell? ⟨w2.heap.size, 2, none⟩ = some (.int .i64 z) := by simp
  have i3 : (w2.alloc (.cells #[.int .i64 x, .int .i64 y, .int .i64 z, .int .i64 u] 24)).cell? ⟨w2.heap.size, 3, none⟩ = some (.int .i64 u) := by simp
  have r3 := r2.below hz
  have Q3 : Below w.heap.size w (w2.alloc (.cells #[.int .i64 x, .int .i64 y, .int .i64 z, .int .i64 u] 24)) := by go_grown
  have s3 : (w2.alloc (.cells #[.int .i64 x, .int .i64 y, .int .i64 z, .int .i64 u] 24)).heap.size = w2.heap.size + 1 := by simp
  have q0 : 0 ≤ q := r2.2.2.2.2.2
  have m2 : ¬ w.heap.size = w2.heap.size := by omega
  have m3 : ¬ w.heap.size + 1 = w2.heap.size := by omega
  have m4 : ¬ w.heap.size + 1 = w.heap.size := by omega
  clear K2 b2 r1 hA Q2 r2 hz
  go_upto_region 3 with fail
  generalize (w2.alloc (.cells #[.int .i64 x, .int .i64 y, .int .i64 z, .int .i64 u] 24)) = w3 at *
  refine wp_region_any (by kernel_rfl) ?_
  try (change wpAny _ _ _ _ _ _ _ (World.drew _))
  refine wpAny_take (i := 1) (v := ?_) rfl (by kernel_rfl) (by kernel_rfl) (by kernel_rfl) (fun _ _ _ h => h) (Or.inl ⟨by rfl, ?_⟩) ?_
  rotate_left
  focus (intro w0; go_simp; try with_reducible rfl)
  refine wpAny_ready (rs := [0, 2]) (by kernel_rfl) (by simp) (AllReady.cons rfl (fun K hK => ?_) (AllReady.cons rfl (fun K hK => ?_) (AllReady.nil)))
  focus
    go_simp
    refine hK _ _ ?_
    clear hK K
    refine wpAny_ready (rs := [2]) (by kernel_rfl) (by simp) (AllReady.cons rfl (fun K hK => ?_) (AllReady.nil))
    go_simp
    (refine Calls.mono (l91Vec_any _ (w.heap.size + 1 + 1) a l1 c1 q (r3.below (by go_grown)) (by omega)) ?_; rintro e w4 ⟨x2, y2, q2, rfl, _, _, _, _, r4, b4, K4⟩; replace e0 := (K4.1 (w.heap.size) 0 (by (try simp only [World.size_drew]); omega) (by omega)).1.trans e0; replace f0 := (K4.1 (w.heap.size) 0 (by (try simp only [World.size_drew]); omega) (by omega)).2.trans f0; replace e1 := (K4.1 (w.heap.size) 1 (by (try simp only [World.size_drew]); omega) (by omega)).1.trans e1; replace f1 := (K4.1 (w.heap.size) 1 (by (try simp only [World.size_drew]); omega) (by omega)).2.trans f1; replace e2 := (K4.1 (w.heap.size) 2 (by (try simp only [World.size_drew]); omega) (by omega)).1.trans e2; replace f2 := (K4.1 (w.heap.size) 2 (by (try simp only [World.size_drew]); omega) (by omega)).2.trans f2; replace e3 := (K4.1 (w.heap.size) 3 (by (try simp only [World.size_drew]); omega) (by omega)).1.trans e3; replace f3 := (K4.1 (w.heap.size) 3 (by (try simp only [World.size_drew]); omega) (by omega)).2.trans f3; replace e4 := (K4.1 (w.heap.size + 1) 0 (by (try simp only [World.size_drew]); omega) (by omega)).1.trans e4; replace f4 := (K4.1 (w.heap.size + 1) 0 (by (try simp only [World.size_drew]); omega) (by omega)).2.trans f4; replace e5 := (K4.1 (w.heap.size + 1) 1 (by (try simp only [World.size_drew]); omega) (by omega)).1.trans e5; replace f5 := (K4.1 (w.heap.size + 1) 1 (by (try simp only [World.size_drew]); omega) (by omega)).2.trans f5; replace i0 := (K4.1 (w2.heap.size) 0 (by (try simp only [World.size_drew]); omega) (by omega)).1.trans i0; replace i1 := (K4.1 (w2.heap.size) 1 (by (try simp only [World.size_drew]); omega) (by omega)).1.trans i1; replace i2 := (K4.1 (w2.heap.size) 2 (by (try simp only [World.size_drew]); omega) (by omega)).1.trans i2; replace i3 := (K4.1 (w2.heap.size) 3 (by (try simp only [World.size_drew]); omega) (by omega)).1.trans i3; have Q4 : Below w.heap.size w w4 := Q3.trans ((⟨b4.os, b4.tape, b4.output, b4.size, b4.block⟩ : Below (w.heap.size + 1 + 1) w3 w4).mono (by omega)); clear K4 b4 r3 Q3 r4)
    refine hK _ _ ?_
    clear hK K
    refine wpAny_ready (rs := [3]) (by kernel_rfl) (by simp) (AllReady.cons rfl (fun K hK => ?_) (AllReady.nil))
    go_simp
    refine hK _ _ ?_
    clear hK K
    refine wpAny_seq 4 rfl (by kernel_rfl) ?_
    simp only [List.drop_succ_cons, List.drop_zero]
  rotate_left 1
  focus
    go_simp
    (refine Calls.mono (l91Vec_any _ (w.heap.size + 1 + 1) a l1 c1 q (r3.below (by go_grown)) (by omega)) ?_; rintro e w4 ⟨x2, y2, q2, rfl, _, _, _, _, r4, b4, K4⟩; replace e0 := (K4.1 (w.heap.size) 0 (by (try simp only [World.size_drew]); omega) (by omega)).1.trans e0; replace f0 := (K4.1 (w.heap.size) 0 (by (try simp only [World.size_drew]); omega) (by omega)).2.trans f0; replace e1 := (K4.1 (w.heap.size) 1 (by (try simp only [World.size_drew]); omega) (by omega)).1.trans e1; replace f1 := (K4.1 (w.heap.size) 1 (by (try simp only [World.size_drew]); omega) (by omega)).2.trans f1; replace e2 := (K4.1 (w.heap.size) 2 (by (try simp only [World.size_drew]); omega) (by omega)).1.trans e2; replace f2 := (K4.1 (w.heap.size) 2 (by (try simp only [World.size_drew]); omega) (by omega)).2.trans f2; replace e3 := (K4.1 (w.heap.size) 3 (by (try simp only [World.size_drew]); omega) (by omega)).1.trans e3; replace f3 := (K4.1 (w.heap.size) 3 (by (try simp only [World.size_drew]); omega) (by omega)).2.trans f3; replace e4 := (K4.1 (w.heap.size + 1) 0 (by (try simp only [World.size_drew]); omega) (by omega)).1.trans e4; replace f4 := (K4.1 (w.heap.size + 1) 0 (by (try simp only [World.size_drew]); omega) (by omega)).2.trans f4; replace e5 := (K4.1 (w.heap.size + 1) 1 (by (try simp only [World.size_drew]); omega) (by omega)).1.trans e5; replace f5 := (K4.1 (w.heap.size + 1) 1 (by (try simp only [World.size_drew]); omega) (by omega)).2.trans f5; replace i0 := (K4.1 (w2.heap.size) 0 (by (try simp only [World.size_drew]); omega) (by omega)).1.trans i0; replace i1 := (K4.1 (w2.heap.size) 1 (by (try simp only [World.size_drew]); omega) (by omega)).1.trans i1; replace i2 := (K4.1 (w2.heap.size) 2 (by (try simp only [World.size_drew]); omega) (by omega)).1.trans i2; replace i3 := (K4.1 (w2.heap.size) 3 (by (try simp only [World.size_drew]); omega) (by omega)).1.trans i3; have Q4 : Below w.heap.size w w4 := Q3.trans ((⟨b4.os, b4.tape, b4.output, b4.size, b4.block⟩ : Below (w.heap.size + 1 + 1) w3 w4).mono (by omega)); clear K4 b4 r3 Q3 r4)
    refine hK _ _ ?_
    clear hK K
    refine wpAny_ready (rs := [0]) (by kernel_rfl) (by simp) (AllReady.cons rfl (fun K hK => ?_) (AllReady.nil))
    go_simp
    refine hK _ _ ?_
    clear hK K
    refine wpAny_ready (rs := [3]) (by kernel_rfl) (by simp) (AllReady.cons rfl (fun K hK => ?_) (AllReady.nil))
    go_simp
    refine hK _ _ ?_
    clear hK K
    refine wpAny_seq 4 rfl (by kernel_rfl) ?_
    simp only [List.drop_succ_cons, List.drop_zero]
  all_goals
    have hQs := Q4.size
    go_wp2
    refine bodyPost_ret (by simp [results, Tryd.results19, go_sem, *]; try rfl) rfl ?_
    exact ⟨_, _, _, _, _, _,  rfl, by go_grown⟩
end Go.Proofs.YtcieihbknfeddaaDoor
