/- Vectors in the order of their numbers: the comparison that is handed to slices.SortFunc. -/
import Derived.Test.YtgaeibibeekclaaDoorBj
import Derived.Test.YtgaeibibeekclaaDoorI8
import Derived.Test.YtgaeibibeekclaaDoorSo
namespace Go.Proofs.YtgaeibibeekclaaDoor
open Go.RowKit

def cmpZ (a b : Int) : Int := if a < b then -1 else if b < a then 1 else 0
def orZ (a b : Int) : Int := if a = 0 then b else a
def cmpN (u v : V2) : Int := orZ (cmpZ u.1 v.1) (cmpZ u.2 v.2)
set_option maxHeartbeats 1000000 in
theorem isNaN_g (x : Int) (w : World) : Calls Tryd.prog 109 #[.int .i64 x] w fun e w' => e = .returned (.bool false) ∧ w' = w := by
  go_enter Tryd.func109, Tryd.ntmps109
  go_wp2
  go_returns
  exact ⟨rfl, rfl⟩
set_option maxHeartbeats 2000000 in
theorem compare_g (x y : Int) (w : World) : Calls Tryd.prog 97 #[.int .i64 x, .int .i64 y] w fun e w' => e = .returned (.int .i64 (cmpZ x y)) ∧ w' = w := by
  have HX := Lib.hid (fun w' => isNaN_g x w')
  have HY := Lib.hid (fun w' => isNaN_g y w')
  unfold cmpZ
  by_cases h1 : x < y
  · rw [if_pos h1]
    go_enter Tryd.func97, Tryd.ntmps97
    go_wp2_with fail
    refine Calls.mono (HX.out _) ?_
    rintro e w1 ⟨rfl, rfl⟩
    go_wp2_with fail
    refine Calls.mono (HY.out _) ?_
    rintro e w1 ⟨rfl, rfl⟩
    go_wp2
    go_returns
    exact ⟨rfl, rfl⟩
  · rw [if_neg h1]
    by_cases h2 : y < x
    · rw [if_pos h2]
      go_enter Tryd.func97, Tryd.ntmps97
      go_wp2_with fail
      refine Calls.mono (HX.out _) ?_
      rintro e w1 ⟨rfl, rfl⟩
      go_wp2_with fail
      refine Calls.mono (HY.out _) ?_
      rintro e w1 ⟨rfl, rfl⟩
      go_wp2
      go_returns
      exact ⟨rfl, rfl⟩
    · rw [if_neg h2]
      go_enter Tryd.func97, Tryd.ntmps97
      go_wp2_with fail
      refine Calls.mono (HX.out _) ?_
      rintro e w1 ⟨rfl, rfl⟩
      go_wp2_with fail
      refine Calls.mono (HY.out _) ?_
      rintro e w1 ⟨rfl, rfl⟩
      go_wp2
      go_returns
      exact ⟨rfl, rfl⟩
set_option maxHeartbeats 2000000 in
theorem or_g (B : Nat) (a b : Int) (w : World) (c0 : w.cell? ⟨B, 0, none⟩ = some (.int .i64 a)) (c1 : w.cell? ⟨B, 1, none⟩ = some (.int .i64 b)) :
    Calls Tryd.prog 96 #[.slice (some ⟨B, 0, none⟩) 2 2] w fun e w' => e = .returned (.int .i64 (orZ a b)) ∧ w' = w := by
  unfold orZ
  by_cases h : a = 0
  · subst h
    rw [if_pos rfl]
    by_cases h2 : b = 0
    · subst h2
      go_enter Tryd.func96, Tryd.ntmps96
      go_wp2
      refine wp_loop_rounds 3 ?_
      rw [rounds_succ]
      go_wp2_with fail
      rw [rounds_succ]
      go_wp2_with fail
      rw [rounds_succ]
      go_wp2
      go_returns
      exact ⟨rfl, rfl⟩
    · have hb : (b == 0) = false := by simpa using h2
      go_enter Tryd.func96, Tryd.ntmps96
      go_wp2
      refine wp_loop_rounds 3 ?_
      rw [rounds_succ]
      go_wp2_with fail
      rw [rounds_succ]
      go_wp2
      go_returns
      exact ⟨rfl, rfl⟩
  · rw [if_neg h]
    have ha : (a == 0) = false := by simpa using h
    go_enter Tryd.func96, Tryd.ntmps96
    go_wp2
    refine wp_loop_rounds 3 ?_
    rw [rounds_succ]
    go_wp2
    go_returns
    exact ⟨rfl, rfl⟩
set_option maxHeartbeats 8000000 in
theorem byNumbers_g (u v : V2) (w : World) :
    Calls Tryd.prog 78 #[.agg #[.int .i64 u.1, .int .i64 u.2], .agg #[.int .i64 v.1, .int .i64 v.2]] w fun e w' => e = .returned (.int .i64 (cmpN u v)) ∧ Below w.heap.size w w' ∧ w.drawn ≤ w'.drawn := by
  obtain ⟨x1, y1⟩ := u
  obtain ⟨x2, y2⟩ := v
  have HC := Lib.hid (fun a b w' => compare_g a b w')
  have HO := Lib.hid (fun B a b w' c0 c1 => or_g B a b w' c0 c1)
  have HZ : Hid (cmpN (x1, y1) (x2, y2) = orZ (cmpZ x1 x2) (cmpZ y1 y2)) := rfl
  have HCx := Lib.hid (fun w' => HC.out x1 x2 w')
  have HCy := Lib.hid (fun w' => HC.out y1 y2 w')
  clear HC
  dsimp only
  generalize cmpN (x1, y1) (x2, y2) = Z at *
  generalize cmpZ x1 x2 = P at *
  generalize cmpZ y1 y2 = Q at *
  have HOk := Lib.hid (fun B w' c0 c1 => HO.out B P Q w' c0 c1)
  generalize orZ P Q = O at *
  clear HO
  obtain ⟨W0, hW0⟩ : ∃ W0, W0 = ((w.alloc (.cells #[.int .i64 x1, .int .i64 y1] 31)).alloc (.cells #[.int .i64 x2, .int .i64 y2] 31)) := ⟨_, rfl⟩
  have a0 : W0.cell? ⟨w.heap.size, 0, none⟩ = some (.int .i64 x1) := by rw [hW0]; simp
  have a1 : W0.cell? ⟨w.heap.size, 1, none⟩ = some (.int .i64 y1) := by rw [hW0]; simp
  have b0 : W0.cell? ⟨w.heap.size + 1, 0, none⟩ = some (.int .i64 x2) := by rw [hW0]; simp
  have b1 : W0.cell? ⟨w.heap.size + 1, 1, none⟩ = some (.int .i64 y2) := by rw [hW0]; simp
  have hB0 : Below w.heap.size w W0 := by rw [hW0]; go_grown
  have hD0 : w.drawn ≤ W0.drawn := by rw [hW0]; exact Nat.le_refl _
  have t0 := World.block_lt_of_cell? W0 _ a0
  have t1 := World.block_lt_of_cell? W0 _ b0
  go_enter Tryd.func78, Tryd.ntmps78
  go_upto_region 1 with fail
  rw [← hW0]
  clear hW0
  refine wp_region_any (by kernel_rfl) ?_
  try (change wpAny _ _ _ _ _ _ _ (World.drew _))
  refine wpAny_of_held (S := fun w' => Below (W0.heap.size) W0 w') _ _ _ _ ?_
  have hSw : Below (W0.heap.size) W0 (World.drew W0) := by go_grown
  generalize hwd : World.drew W0 = wd at hSw ⊢
  refine wpAnyH_take (i := 0) (v := ?_) rfl (by kernel_rfl) (by kernel_rfl) (by kernel_rfl) (fun _ _ _ h => h) (Or.inl ⟨by rfl, ?_⟩) hSw ?_
  rotate_left
  focus (intro w0 hS0; clear hS0; go_simp; try with_reducible rfl)
  refine wpAnyH_take (i := 1) (v := ?_) rfl (by kernel_rfl) (by kernel_rfl) (by kernel_rfl) (fun _ _ _ h => h) (Or.inl ⟨by rfl, ?_⟩) hSw ?_
  rotate_left
  focus (intro w0 hS0; have c0 := (hS0.cell (p := ⟨w.heap.size, 0, none⟩) t0).trans a0; have c1 := (hS0.cell (p := ⟨w.heap.size, 1, none⟩) t0).trans a1; have c2 := (hS0.cell (p := ⟨w.heap.size + 1, 0, none⟩) t1).trans b0; have c3 := (hS0.cell (p := ⟨w.heap.size + 1, 1, none⟩) t1).trans b1; clear hS0; go_simp; try with_reducible rfl)
  refine wpAnyH_take (i := 2) (v := ?_) rfl (by kernel_rfl) (by kernel_rfl) (by kernel_rfl) (fun _ _ _ h => h) (Or.inl ⟨by rfl, ?_⟩) hSw ?_
  rotate_left
  focus (intro w0 hS0; clear hS0; go_simp; try with_reducible rfl)
  refine wpAnyH_take (i := 3) (v := ?_) rfl (by kernel_rfl) (by kernel_rfl) (by kernel_rfl) (fun _ _ _ h => h) (Or.inl ⟨by rfl, ?_⟩) hSw ?_
  rotate_left
  focus (intro w0 hS0; have c0 := (hS0.cell (p := ⟨w.heap.size, 0, none⟩) t0).trans a0; have c1 := (hS0.cell (p := ⟨w.heap.size, 1, none⟩) t0).trans a1; have c2 := (hS0.cell (p := ⟨w.heap.size + 1, 0, none⟩) t1).trans b0; have c3 := (hS0.cell (p := ⟨w.heap.size + 1, 1, none⟩) t1).trans b1; clear hS0; go_simp; try with_reducible rfl)
  refine wpAnyH_take (i := 5) (v := ?_) rfl (by kernel_rfl) (by kernel_rfl) (by kernel_rfl) (fun _ _ _ h => h) (Or.inl ⟨by rfl, ?_⟩) hSw ?_
  rotate_left
  focus (intro w0 hS0; clear hS0; go_simp; try with_reducible rfl)
  refine wpAnyH_take (i := 6) (v := ?_) rfl (by kernel_rfl) (by kernel_rfl) (by kernel_rfl) (fun _ _ _ h => h) (Or.inl ⟨by rfl, ?_⟩) hSw ?_
  rotate_left
  focus (intro w0 hS0; have c0 := (hS0.cell (p := ⟨w.heap.size, 0, none⟩) t0).trans a0; have c1 := (hS0.cell (p := ⟨w.heap.size, 1, none⟩) t0).trans a1; have c2 := (hS0.cell (p := ⟨w.heap.size + 1, 0, none⟩) t1).trans b0; have c3 := (hS0.cell (p := ⟨w.heap.size + 1, 1, none⟩) t1).trans b1; clear hS0; go_simp; try with_reducible rfl)
  refine wpAnyH_take (i := 7) (v := ?_) rfl (by kernel_rfl) (by kernel_rfl) (by kernel_rfl) (fun _ _ _ h => h) (Or.inl ⟨by rfl, ?_⟩) hSw ?_
  rotate_left
  focus (intro w0 hS0; clear hS0; go_simp; try with_reducible rfl)
  refine wpAnyH_take (i := 8) (v := ?_) rfl (by kernel_rfl) (by kernel_rfl) (by kernel_rfl) (fun _ _ _ h => h) (Or.inl ⟨by rfl, ?_⟩) hSw ?_
  rotate_left
  focus (intro w0 hS0; have c0 := (hS0.cell (p := ⟨w.heap.size, 0, none⟩) t0).trans a0; have c1 := (hS0.cell (p := ⟨w.heap.size, 1, none⟩) t0).trans a1; have c2 := (hS0.cell (p := ⟨w.heap.size + 1, 0, none⟩) t1).trans b0; have c3 := (hS0.cell (p := ⟨w.heap.size + 1, 1, none⟩) t1).trans b1; clear hS0; go_simp; try with_reducible rfl)
  refine wpAnyH_ready (rs := [4]) (by kernel_rfl) (by simp) (AllReadyH.cons rfl (fun K hK => ?_) (AllReadyH.nil))
  go_simp
  (refine Calls.mono (HCx.out _) ?_; rintro e w1 ⟨rfl, hq⟩; subst hq; refine hK.out _ _ hSw (fun _ => ?_); clear hK K)
  refine wpAnyH_ready (rs := [9]) (by kernel_rfl) (by simp) (AllReadyH.cons rfl (fun K hK => ?_) (AllReadyH.nil))
  go_simp
  (refine Calls.mono (HCy.out _) ?_; rintro e w2 ⟨rfl, hq⟩; subst hq; refine hK.out _ _ hSw (fun _ => ?_); clear hK K)
  refine wpAnyH_ready (rs := [10]) (by kernel_rfl) (by simp) (AllReadyH.cons rfl (fun K hK => ?_) (AllReadyH.nil))
  go_simp
  (replace hSw := hSw.alloc hSw.size (.cells #[.int .i64 P, .int .i64 Q] 3); refine hK.out _ _ hSw (fun _ => ?_); clear hK K)
  refine wpAnyH_ready (rs := [11]) (by kernel_rfl) (by simp) (AllReadyH.cons rfl (fun K hK => ?_) (AllReadyH.nil))
  go_simp
  (refine Calls.mono (HOk.out _ _ (by simp) (by simp)) ?_; rintro e w4 ⟨rfl, hq⟩; subst hq; refine hK.out _ _ hSw (fun _ => ?_); clear hK K)
  refine wpAnyH_take (i := 12) (v := ?_) rfl (by kernel_rfl) (by kernel_rfl) (by kernel_rfl) (fun _ _ _ h => h) (Or.inl ⟨by rfl, ?_⟩) hSw ?_
  rotate_left
  focus (intro w0 hS0; clear hS0; go_simp; try with_reducible rfl)
  refine wpAnyH_done (by kernel_rfl) ?_ _
  subst hwd
  have hB1 := belowTo hB0 hSw
  go_wp2
  go_returns
  exact ⟨by rw [HZ.out]; rfl, by go_grown, Nat.le_trans hD0 (undrawn (Nat.le_refl _))⟩
end Go.Proofs.YtgaeibibeekclaaDoor
