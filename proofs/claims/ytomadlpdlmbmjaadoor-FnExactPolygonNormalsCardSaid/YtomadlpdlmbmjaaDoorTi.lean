import Derived.Test.YtomadlpdlmbmjaaDoorB2
import Derived.Deep.RegionHeld3
namespace Go.Proofs.YtomadlpdlmbmjaaDoor
open Go.RowKit

set_option maxHeartbeats 4000000 in
theorem primitive_any (x y : Int) (w : World) (h1 : vecB x y = true) (hne : ¬ (x = 0 ∧ y = 0)) :
    Calls Tryd.prog 41 #[.agg #[.int .i64 (x), .int .i64 (y)]] w fun e w' => e = .returned (.tuple #[.agg #[.int .i64 (x.tdiv (gcdZ x y)), .int .i64 (y.tdiv (gcdZ x y))], .int .i64 (gcdZ x y)]) ∧ Below w.heap.size w w' := by
  obtain ⟨hx, hy⟩ := szs h1
  have hp := gcdZ_pos hne
  have hl := gcdZ_le (x := x) (y := y) (n := 1000) hx hy
  have ⟨_, _⟩ := tdiv_bd (m := gcdZ x y) hx
  have ⟨_, _⟩ := tdiv_bd (m := gcdZ x y) hy
  have gb : (gcdZ x y == 0) = false := by simp; omega
  clear h1 hne
  go_enter Tryd.func41, Tryd.ntmps41
  (go_wp2_with fail; go_call (commonDivisor_any x y _ hx hy) as e w1 ⟨rfl, hb1⟩); obtain ⟨hc1, hf1⟩ := bcell hb1; have hz1 := bsize hb1
  go_wp2
  go_region
  all_goals go_wp2
  all_goals (have hB := belowTo (a := w) (by go_grown) hb1; have hS := hB.size; (refine bodyPost_ret (by simp [results, Tryd.results41, go_sem, bcs hb1]; try rfl) rfl ?_); clear hb1)
  all_goals exact ⟨rfl, by go_grown⟩
set_option maxHeartbeats 4000000 in
theorem vecPrimitive_any (x y : Int) (w : World) (hg : EtOk w) :
    Calls Tryd.prog 13 #[.agg #[.int .i64 (x), .int .i64 (y)]] w fun e w' => e = .returned (.tuple #[.agg #[.int .i64 (gate (primOk x y) (x.tdiv (gcdZ x y))), .int .i64 (gate (primOk x y) (y.tdiv (gcdZ x y)))], .int .i64 (gate (primOk x y) (gcdZ x y)), .bool (primOk x y)]) ∧ Below w.heap.size w w' := by
  unfold primOk
  cases h1 : vecB x y
  · go_enter Tryd.func13, Tryd.ntmps13
    (go_wp2_with fail; go_call (check_out x y _ h1) as e w1 ⟨rfl, hb1⟩); obtain ⟨hc1, hf1⟩ := bcell hb1; have hz1 := bsize hb1
    (go_wp2_with fail; go_call (none_hit _ _ (hg.below (belowTo (a := w) (by go_grown) hb1))) as e w2 ⟨rfl, hb2⟩); replace hb1 := belowTo hb1 hb2; clear hb2 hc1 hf1 hz1; obtain ⟨hc1, hf1⟩ := bcell hb1; have hz1 := bsize hb1
    go_wp2
    have hB := belowTo (a := w) (by go_grown) hb1; have hS := hB.size; (refine bodyPost_ret (by simp [results, Tryd.results13, go_sem, bcs hb1]; try rfl) rfl ?_); clear hb1
    exact ⟨rfl, by go_grown⟩
  · by_cases x0 : x = 0
    · subst x0
      by_cases y0 : y = 0
      · subst y0
        go_enter Tryd.func13, Tryd.ntmps13
        (go_wp2_with fail; go_call (check_in 0 0 _ h1) as e w1 ⟨rfl, hb1⟩); obtain ⟨hc1, hf1⟩ := bcell hb1; have hz1 := bsize hb1
        (go_wp2_with fail; go_call (none_nil _) as e w2 ⟨rfl, hb2⟩); replace hb1 := belowTo hb1 hb2; clear hb2 hc1 hf1 hz1; obtain ⟨hc1, hf1⟩ := bcell hb1; have hz1 := bsize hb1
        go_wp2
        have hB := belowTo (a := w) (by go_grown) hb1; have hS := hB.size; (refine bodyPost_ret (by simp [results, Tryd.results13, go_sem, bcs hb1]; try rfl) rfl ?_); clear hb1
        exact ⟨rfl, by go_grown⟩
      · have yb : (y == 0) = false := by simpa using y0
        have HP := Lib.hid (fun w' => primitive_any 0 y w' h1 (by simp [y0]))
        go_enter Tryd.func13, Tryd.ntmps13
        (go_wp2_with fail; go_call (check_in 0 y _ h1) as e w1 ⟨rfl, hb1⟩); obtain ⟨hc1, hf1⟩ := bcell hb1; have hz1 := bsize hb1
        (go_wp2_with fail; go_call (none_nil _) as e w2 ⟨rfl, hb2⟩); replace hb1 := belowTo hb1 hb2; clear hb2 hc1 hf1 hz1; obtain ⟨hc1, hf1⟩ := bcell hb1; have hz1 := bsize hb1
        (go_wp2_with fail; go_call (HP.out _) as e w2 ⟨rfl, hb2⟩); replace hb1 := belowTo hb1 hb2; clear hb2 hc1 hf1 hz1; obtain ⟨hc1, hf1⟩ := bcell hb1; have hz1 := bsize hb1
        go_wp2
        have hB := belowTo (a := w) (by go_grown) hb1; have hS := hB.size; (refine bodyPost_ret (by simp [results, Tryd.results13, go_sem, bcs hb1]; try rfl) rfl ?_); clear hb1
        exact ⟨by rw [nz_ne2 y0]; simp [gate], by go_grown⟩
    · have xb : (x == 0) = false := by simpa using x0
      have HP := Lib.hid (fun w' => primitive_any x y w' h1 (by simp [x0]))
      go_enter Tryd.func13, Tryd.ntmps13
      (go_wp2_with fail; go_call (check_in x y _ h1) as e w1 ⟨rfl, hb1⟩); obtain ⟨hc1, hf1⟩ := bcell hb1; have hz1 := bsize hb1
      (go_wp2_with fail; go_call (none_nil _) as e w2 ⟨rfl, hb2⟩); replace hb1 := belowTo hb1 hb2; clear hb2 hc1 hf1 hz1; obtain ⟨hc1, hf1⟩ := bcell hb1; have hz1 := bsize hb1
      (go_wp2_with fail; go_call (HP.out _) as e w2 ⟨rfl, hb2⟩); replace hb1 := belowTo hb1 hb2; clear hb2 hc1 hf1 hz1; obtain ⟨hc1, hf1⟩ := bcell hb1; have hz1 := bsize hb1
      go_wp2
      have hB := belowTo (a := w) (by go_grown) hb1; have hS := hB.size; (refine bodyPost_ret (by simp [results, Tryd.results13, go_sem, bcs hb1]; try rfl) rfl ?_); clear hb1
      exact ⟨by rw [nz_ne x0]; simp [gate], by go_grown⟩

set_option maxHeartbeats 2000000 in
theorem l1Primitive_any (x y : Int) (w : World) (h1 : vecB x y = true) (h2 : nzB x y = true) :
    Calls Tryd.prog 43 #[.agg #[.int .i64 (x), .int .i64 (y)]] w fun e w' => e = .returned (.agg #[.int .i64 (x.tdiv (gcdZ x y)), .int .i64 (y.tdiv (gcdZ x y))]) ∧ Below w.heap.size w w' := by
  obtain ⟨hx, hy⟩ := szs h1
  have hne : ¬ (x = 0 ∧ y = 0) := by rintro ⟨rfl, rfl⟩; simp [nzB] at h2
  have hp := gcdZ_pos hne
  have hl := gcdZ_le (x := x) (y := y) (n := 1000) hx hy
  have ⟨_, _⟩ := tdiv_bd (m := gcdZ x y) hx
  have ⟨_, _⟩ := tdiv_bd (m := gcdZ x y) hy
  have gb : (gcdZ x y == 0) = false := by simp; omega
  clear h1 h2 hne
  go_enter Tryd.func43, Tryd.ntmps43
  (go_wp2_with fail; go_call (l1Gcd_any x y _ hx hy) as e w1 ⟨rfl, hb1⟩); obtain ⟨hc1, hf1⟩ := bcell hb1; have hz1 := bsize hb1
  go_wp2
  go_region
  all_goals go_wp2
  all_goals (have hB := belowTo (a := w) (by go_grown) hb1; have hS := hB.size; (refine bodyPost_ret (by simp [results, Tryd.results43, go_sem, bcs hb1]; try rfl) rfl ?_); clear hb1)
  all_goals exact ⟨rfl, by go_grown⟩

set_option maxHeartbeats 4000000 in
theorem specVecPrimitive_any (x y : Int) (w : World) :
    Calls Tryd.prog 14 #[.agg #[.int .i64 (x), .int .i64 (y)]] w fun e w' => e = .returned (.tuple #[.agg #[.int .i64 (gate (primOk x y) (x.tdiv (gcdZ x y))), .int .i64 (gate (primOk x y) (y.tdiv (gcdZ x y)))], .int .i64 (gate (primOk x y) (gcdZ x y)), .bool (primOk x y)]) ∧ Below w.heap.size w w' := by
  unfold primOk
  cases h1 : vecB x y
  · go_enter Tryd.func14, Tryd.ntmps14
    (go_wp2_with fail; go_call (specVecIn_any x y _) as e w1 ⟨rfl, hb1⟩); obtain ⟨hc1, hf1⟩ := bcell hb1; have hz1 := bsize hb1
    go_wp2
    have hB := belowTo (a := w) (by go_grown) hb1; have hS := hB.size; (refine bodyPost_ret (by simp [results, Tryd.results14, go_sem, bcs hb1]; try rfl) rfl ?_); clear hb1
    exact ⟨rfl, by go_grown⟩
  · obtain ⟨hx, hy⟩ := szs h1
    cases h2 : nzB x y
    · have h0 : x = 0 ∧ y = 0 := by simpa [nzB] using h2
      obtain ⟨rfl, rfl⟩ := h0
      clear h2
      go_enter Tryd.func14, Tryd.ntmps14
      (go_wp2_with fail; go_call (specVecIn_any 0 0 _) as e w1 ⟨rfl, hb1⟩); obtain ⟨hc1, hf1⟩ := bcell hb1; have hz1 := bsize hb1
      go_wp2
      have hB := belowTo (a := w) (by go_grown) hb1; have hS := hB.size; (refine bodyPost_ret (by simp [results, Tryd.results14, go_sem, bcs hb1]; try rfl) rfl ?_); clear hb1
      exact ⟨rfl, by go_grown⟩
    · have ex : (x == 0) = false ∨ ((x == 0) = true ∧ (y == 0) = false) := by
        cases hx0 : (x == 0) <;> cases hy0 : (y == 0) <;> simp [nzB, hx0, hy0] at h2 ⊢
      have hl := gcdZ_le (x := x) (y := y) (n := 1000) hx hy
      rcases ex with ex | ⟨ex, ey⟩
      all_goals
        go_enter Tryd.func14, Tryd.ntmps14
        (go_wp2_with fail; go_call (specVecIn_any x y _) as e w1 ⟨rfl, hb1⟩); obtain ⟨hc1, hf1⟩ := bcell hb1; have hz1 := bsize hb1
        go_wp2_with fail
        have hB := belowTo (a := w) (by go_grown) hb1
        have hS : w.heap.size + 1 < w1.heap.size := by have := hb1.size; simp only [World.size_alloc] at this; omega
        have c0 : w1.cell? ⟨w.heap.size, 0, none⟩ = some (.int .i64 x) := (hb1.cell (p := ⟨w.heap.size, 0, none⟩) (by simp only [World.size_alloc]; omega)).trans (by simp)
        have c1 : w1.cell? ⟨w.heap.size, 1, none⟩ = some (.int .i64 y) := (hb1.cell (p := ⟨w.heap.size, 1, none⟩) (by simp only [World.size_alloc]; omega)).trans (by simp)
        go_region_held3 (fun w' => w'.cell? ⟨w.heap.size, 0, none⟩ = some (.int .i64 x) ∧ w'.cell? ⟨w.heap.size, 1, none⟩ = some (.int .i64 y) ∧ w.heap.size + 1 < w'.heap.size ∧ Below w.heap.size w w')
          ((refine ⟨by go_keep, by go_keep, ?_, ?_⟩; (first | assumption | (simp; omega)); (first | assumption | (go_grown; done) | (have hS2 := hB.size; go_grown; done))))
          (first
            | (go_at_call 43; go_call (l1Primitive_any x y _ h1 h2) as e w2 ⟨rfl, hb2⟩; (first | replace hB := belowTo hB hb2 | replace hB := belowTo hB.drew hb2); have hS' := hS; replace hS := Nat.lt_of_lt_of_le hS hb2.size; replace c0 := (hb2.cell (p := ⟨w.heap.size, 0, none⟩) (by first | exact Nat.lt_of_succ_lt hS' | (simp; omega))).trans c0; replace c1 := (hb2.cell (p := ⟨w.heap.size, 1, none⟩) (by first | exact Nat.lt_of_succ_lt hS' | (simp; omega))).trans c1; (first | replace hb1 := belowTo hb1 hb2 | replace hb1 := belowTo hb1.drew hb2); clear hc1 hf1 hz1; obtain ⟨hc1, hf1⟩ := bcell hb1; have hz1 := bsize hb1)
            | (go_at_call 44; go_call (l1Gcd_any x y _ hx hy) as e w2 ⟨rfl, hb2⟩; (first | replace hB := belowTo hB hb2 | replace hB := belowTo hB.drew hb2); have hS' := hS; replace hS := Nat.lt_of_lt_of_le hS hb2.size; replace c0 := (hb2.cell (p := ⟨w.heap.size, 0, none⟩) (by first | exact Nat.lt_of_succ_lt hS' | (simp; omega))).trans c0; replace c1 := (hb2.cell (p := ⟨w.heap.size, 1, none⟩) (by first | exact Nat.lt_of_succ_lt hS' | (simp; omega))).trans c1; (first | replace hb1 := belowTo hb1 hb2 | replace hb1 := belowTo hb1.drew hb2); clear hc1 hf1 hz1; obtain ⟨hc1, hf1⟩ := bcell hb1; have hz1 := bsize hb1))
        go_wp2
        have hB := belowTo (a := w) (by go_grown) hb1; have hS := hB.size; (refine bodyPost_ret (by simp [results, Tryd.results14, go_sem, bcs hb1]; try rfl) rfl ?_); clear hb1
        exact ⟨rfl, by go_grown⟩
end Go.Proofs.YtomadlpdlmbmjaaDoor
