/- slices.SortFunc over the order of directions: what it asks of the comparison. -/
import Derived.Test.YtcieihbknfeddaaDoorI8
import Derived.Test.YtcieihbknfeddaaDoorB2
import Derived.Test.YtcieihbknfeddaaDoorB7
namespace Go.Proofs.YtcieihbknfeddaaDoor
open Go.RowKit

theorem drawn_alloc (w : World) (o : Obj) : (w.alloc o).drawn = w.drawn := rfl
theorem drawn_drew (w : World) : w.drew.drawn = w.drawn + 1 := rfl
theorem undrawn {w : World} {d : Nat} (h : w.drew.drawn ≤ d) : w.drawn ≤ d := Nat.le_of_succ_le h
theorem grow_of {w w' : World} (h : Below w.heap.size w w') (hd : w.drawn ≤ w'.drawn) : ∃ q os, w' = Go.Sort.grow (w.drewN q) os := by
  refine ⟨w'.drawn - w.drawn, w'.heap.extract w.heap.size w'.heap.size, ?_⟩
  have hh : w'.heap = w.heap ++ w'.heap.extract w.heap.size w'.heap.size := by
    apply Array.ext_getElem?
    intro i
    by_cases hi : i < w.heap.size
    · rw [Array.getElem?_append_left hi]
      exact h.block i hi
    · rw [Array.getElem?_append_right (by omega)]
      rw [Array.getElem?_extract]
      have hs := h.size
      by_cases h2 : i < w'.heap.size
      · rw [if_pos (by omega)]
        congr 1
        omega
      · rw [if_neg (by omega)]
        exact Array.getElem?_eq_none (by omega)
  obtain ⟨heap, tape, drawn, os, output⟩ := w
  obtain ⟨heap', tape', drawn', os', output'⟩ := w'
  have h1 := h.os
  have h2 := h.tape
  have h3 := h.output
  dsimp only at *
  subst h1 h2 h3
  unfold Go.Sort.grow World.drewN
  congr 1
  dsimp only
  omega
set_option maxHeartbeats 1000000 in
theorem inSecondHalf_g (x y : Int) (w : World) :
    Calls Tryd.prog 147 #[.agg #[.int .i64 (x), .int .i64 (y)]] w fun e w' => e = .returned (.bool (backB x y)) ∧ Below w.heap.size w w' ∧ w.drawn ≤ w'.drawn := by
  go_enter Tryd.func147, Tryd.ntmps147
  go_wp2
  all_goals go_returns
  all_goals refine ⟨?_, by go_grown, by first | exact Nat.le_refl _ | exact Nat.le_add_right _ 1 | exact Nat.le_add_right _ 2 | exact Nat.le_add_right _ 3⟩
  all_goals (refine ret_bool ?_; rw [Bool.eq_iff_iff]; simp [backB]; try omega)
set_option maxHeartbeats 1000000 in
theorem det_g (x1 y1 x2 y2 : Int) (w : World) (h1 : vecB x1 y1 = true) (h2 : vecB x2 y2 = true) :
    Calls Tryd.prog 148 #[.agg #[.int .i64 (x1), .int .i64 (y1)], .agg #[.int .i64 (x2), .int .i64 (y2)]] w fun e w' => e = .returned (.int .i64 (detZ x1 y1 x2 y2)) ∧ Below w.heap.size w w' ∧ w.drawn ≤ w'.drawn := by
  obtain ⟨a1, b1⟩ := szs h1
  obtain ⟨a2, b2⟩ := szs h2
  obtain ⟨_, _⟩ := mul_bd a1 b2
  obtain ⟨_, _⟩ := mul_bd b1 a2
  clear h1 h2 a1 b1 a2 b2
  go_enter Tryd.func148, Tryd.ntmps148
  go_wp2
  go_returns
  exact ⟨rfl, by go_grown, by first | exact Nat.le_refl _ | exact Nat.le_add_right _ 1 | exact Nat.le_add_right _ 2 | exact Nat.le_add_right _ 3⟩
set_option maxHeartbeats 4000000 in
theorem ahead_g (x1 y1 x2 y2 : Int) (w : World) (h1 : vecB x1 y1 = true) (h2 : vecB x2 y2 = true) :
    Calls Tryd.prog 124 #[.agg #[.int .i64 (x1), .int .i64 (y1)], .agg #[.int .i64 (x2), .int .i64 (y2)]] w fun e w' => e = .returned (.bool (aheadB x1 y1 x2 y2)) ∧ Below w.heap.size w w' ∧ w.drawn ≤ w'.drawn := by
  have H1 := Lib.hid (fun w' => inSecondHalf_g x1 y1 w')
  have H2 := Lib.hid (fun w' => inSecondHalf_g x2 y2 w')
  have H3 := Lib.hid (fun w' => det_g x1 y1 x2 y2 w' h1 h2)
  clear h1 h2
  have a0 : ((w.alloc (.cells #[.int .i64 x1, .int .i64 y1] 26)).alloc (.cells #[.int .i64 x2, .int .i64 y2] 26)).cell? ⟨w.heap.size, 0, none⟩ = some (.int .i64 x1) := by simp
  have a1 : ((w.alloc (.cells #[.int .i64 x1, .int .i64 y1] 26)).alloc (.cells #[.int .i64 x2, .int .i64 y2] 26)).cell? ⟨w.heap.size, 1, none⟩ = some (.int .i64 y1) := by simp
  have b0 : ((w.alloc (.cells #[.int .i64 x1, .int .i64 y1] 26)).alloc (.cells #[.int .i64 x2, .int .i64 y2] 26)).cell? ⟨w.heap.size + 1, 0, none⟩ = some (.int .i64 x2) := by simp
  have b1 : ((w.alloc (.cells #[.int .i64 x1, .int .i64 y1] 26)).alloc (.cells #[.int .i64 x2, .int .i64 y2] 26)).cell? ⟨w.heap.size + 1, 1, none⟩ = some (.int .i64 y2) := by simp
  have hsz : w.heap.size + 1 + 1 ≤ ((w.alloc (.cells #[.int .i64 x1, .int .i64 y1] 26)).alloc (.cells #[.int .i64 x2, .int .i64 y2] 26)).heap.size := by simp
  have hB : Below w.heap.size w ((w.alloc (.cells #[.int .i64 x1, .int .i64 y1] 26)).alloc (.cells #[.int .i64 x2, .int .i64 y2] 26)) := by go_grown
  have hD : w.drawn ≤ ((w.alloc (.cells #[.int .i64 x1, .int .i64 y1] 26)).alloc (.cells #[.int .i64 x2, .int .i64 y2] 26)).drawn := Nat.le_refl _
  unfold aheadB
  cases k1 : backB x1 y1 <;> cases k2 : backB x2 y2
  all_goals
    rw [k1] at H1
    rw [k2] at H2
    clear k1 k2
    go_enter Tryd.func124, Tryd.ntmps124
    go_upto_region 1 with fail
    generalize ((w.alloc (.cells #[.int .i64 x1, .int .i64 y1] 26)).alloc (.cells #[.int .i64 x2, .int .i64 y2] 26)) = W at *
    refine wp_region_any (by kernel_rfl) ?_
    try (change wpAny _ _ _ _ _ _ _ (World.drew _))
    refine wpAny_ready (rs := [0, 2]) (by kernel_rfl) (by simp) (AllReady.cons rfl (fun K hK => ?_) (AllReady.cons rfl (fun K hK => ?_) (AllReady.nil)))
    focus
      go_simp
      refine hK _ _ ?_
      clear hK K
      refine wpAny_ready (rs := [1, 2]) (by kernel_rfl) (by simp) (AllReady.cons rfl (fun K hK => ?_) (AllReady.cons rfl (fun K hK => ?_) (AllReady.nil)))
      focus
        go_simp
        (refine Calls.mono (H1.out _) ?_; rintro e w1 ⟨rfl, hb1, hd1⟩; (repeat replace hb1 := undrew hb1); (repeat replace hd1 := undrawn hd1); replace a0 := (hb1.cell (p := ⟨w.heap.size, 0, none⟩) (by dsimp only; omega)).trans a0; replace a1 := (hb1.cell (p := ⟨w.heap.size, 1, none⟩) (by dsimp only; omega)).trans a1; replace b0 := (hb1.cell (p := ⟨w.heap.size + 1, 0, none⟩) (by dsimp only; omega)).trans b0; replace b1 := (hb1.cell (p := ⟨w.heap.size + 1, 1, none⟩) (by dsimp only; omega)).trans b1; replace hsz := Nat.le_trans hsz hb1.size; replace hB := belowTo hB hb1; replace hD := Nat.le_trans hD hd1; clear hb1 hd1)
        refine hK _ _ ?_
        clear hK K
        refine wpAny_ready (rs := [2]) (by kernel_rfl) (by simp) (AllReady.cons rfl (fun K hK => ?_) (AllReady.nil))
        go_simp
        refine hK _ _ ?_
        clear hK K
        refine wpAny_ready (rs := [3]) (by kernel_rfl) (by simp) (AllReady.cons rfl (fun K hK => ?_) (AllReady.nil))
        go_simp
        (refine Calls.mono (H2.out _) ?_; rintro e w2 ⟨rfl, hb1, hd1⟩; (repeat replace hb1 := undrew hb1); (repeat replace hd1 := undrawn hd1); replace a0 := (hb1.cell (p := ⟨w.heap.size, 0, none⟩) (by dsimp only; omega)).trans a0; replace a1 := (hb1.cell (p := ⟨w.heap.size, 1, none⟩) (by dsimp only; omega)).trans a1; replace b0 := (hb1.cell (p := ⟨w.heap.size + 1, 0, none⟩) (by dsimp only; omega)).trans b0; replace b1 := (hb1.cell (p := ⟨w.heap.size + 1, 1, none⟩) (by dsimp only; omega)).trans b1; replace hsz := Nat.le_trans hsz hb1.size; replace hB := belowTo hB hb1; replace hD := Nat.le_trans hD hd1; clear hb1 hd1)
        refine hK _ _ ?_
        clear hK K
        refine wpAny_take (i := 4) (v := ?_) rfl (by kernel_rfl) (by kernel_rfl) (by kernel_rfl) (fun _ _ _ h => h) (Or.inl ⟨by rfl, ?_⟩) ?_
        rotate_left
        focus (intro w0; go_simp; try with_reducible rfl)
        refine wpAny_seq 5 rfl (by kernel_rfl) ?_
        simp only [List.drop_succ_cons, List.drop_zero]
      rotate_left 1
      focus
        go_simp
        refine hK _ _ ?_
        clear hK K
        refine wpAny_ready (rs := [1]) (by kernel_rfl) (by simp) (AllReady.cons rfl (fun K hK => ?_) (AllReady.nil))
        go_simp
        (refine Calls.mono (H1.out _) ?_; rintro e w1 ⟨rfl, hb1, hd1⟩; (repeat replace hb1 := undrew hb1); (repeat replace hd1 := undrawn hd1); replace a0 := (hb1.cell (p := ⟨w.heap.size, 0, none⟩) (by dsimp only; omega)).trans a0; replace a1 := (hb1.cell (p := ⟨w.heap.size, 1, none⟩) (by dsimp only; omega)).trans a1; replace b0 := (hb1.cell (p := ⟨w.heap.size + 1, 0, none⟩) (by dsimp only; omega)).trans b0; replace b1 := (hb1.cell (p := ⟨w.heap.size + 1, 1, none⟩) (by dsimp only; omega)).trans b1; replace hsz := Nat.le_trans hsz hb1.size; replace hB := belowTo hB hb1; replace hD := Nat.le_trans hD hd1; clear hb1 hd1)
        refine hK _ _ ?_
        clear hK K
        refine wpAny_ready (rs := [3]) (by kernel_rfl) (by simp) (AllReady.cons rfl (fun K hK => ?_) (AllReady.nil))
        go_simp
        (refine Calls.mono (H2.out _) ?_; rintro e w2 ⟨rfl, hb1, hd1⟩; (repeat replace hb1 := undrew hb1); (repeat replace hd1 := undrawn hd1); replace a0 := (hb1.cell (p := ⟨w.heap.size, 0, none⟩) (by dsimp only; omega)).trans a0; replace a1 := (hb1.cell (p := ⟨w.heap.size, 1, none⟩) (by dsimp only; omega)).trans a1; replace b0 := (hb1.cell (p := ⟨w.heap.size + 1, 0, none⟩) (by dsimp only; omega)).trans b0; replace b1 := (hb1.cell (p := ⟨w.heap.size + 1, 1, none⟩) (by dsimp only; omega)).trans b1; replace hsz := Nat.le_trans hsz hb1.size; replace hB := belowTo hB hb1; replace hD := Nat.le_trans hD hd1; clear hb1 hd1)
        refine hK _ _ ?_
        clear hK K
        refine wpAny_take (i := 4) (v := ?_) rfl (by kernel_rfl) (by kernel_rfl) (by kernel_rfl) (fun _ _ _ h => h) (Or.inl ⟨by rfl, ?_⟩) ?_
        rotate_left
        focus (intro w0; go_simp; try with_reducible rfl)
        refine wpAny_seq 5 rfl (by kernel_rfl) ?_
        simp only [List.drop_succ_cons, List.drop_zero]
    rotate_left 2
    focus
      go_simp
      refine hK _ _ ?_
      clear hK K
      refine wpAny_ready (rs := [0]) (by kernel_rfl) (by simp) (AllReady.cons rfl (fun K hK => ?_) (AllReady.nil))
      go_simp
      refine hK _ _ ?_
      clear hK K
      refine wpAny_ready (rs := [1]) (by kernel_rfl) (by simp) (AllReady.cons rfl (fun K hK => ?_) (AllReady.nil))
      go_simp
      (refine Calls.mono (H1.out _) ?_; rintro e w1 ⟨rfl, hb1, hd1⟩; (repeat replace hb1 := undrew hb1); (repeat replace hd1 := undrawn hd1); replace a0 := (hb1.cell (p := ⟨w.heap.size, 0, none⟩) (by dsimp only; omega)).trans a0; replace a1 := (hb1.cell (p := ⟨w.heap.size, 1, none⟩) (by dsimp only; omega)).trans a1; replace b0 := (hb1.cell (p := ⟨w.heap.size + 1, 0, none⟩) (by dsimp only; omega)).trans b0; replace b1 := (hb1.cell (p := ⟨w.heap.size + 1, 1, none⟩) (by dsimp only; omega)).trans b1; replace hsz := Nat.le_trans hsz hb1.size; replace hB := belowTo hB hb1; replace hD := Nat.le_trans hD hd1; clear hb1 hd1)
      refine hK _ _ ?_
      clear hK K
      refine wpAny_ready (rs := [3]) (by kernel_rfl) (by simp) (AllReady.cons rfl (fun K hK => ?_) (AllReady.nil))
      go_simp
      (refine Calls.mono (H2.out _) ?_; rintro e w2 ⟨rfl, hb1, hd1⟩; (repeat replace hb1 := undrew hb1); (repeat replace hd1 := undrawn hd1); replace a0 := (hb1.cell (p := ⟨w.heap.size, 0, none⟩) (by dsimp only; omega)).trans a0; replace a1 := (hb1.cell (p := ⟨w.heap.size, 1, none⟩) (by dsimp only; omega)).trans a1; replace b0 := (hb1.cell (p := ⟨w.heap.size + 1, 0, none⟩) (by dsimp only; omega)).trans b0; replace b1 := (hb1.cell (p := ⟨w.heap.size + 1, 1, none⟩) (by dsimp only; omega)).trans b1; replace hsz := Nat.le_trans hsz hb1.size; replace hB := belowTo hB hb1; replace hD := Nat.le_trans hD hd1; clear hb1 hd1)
      refine hK _ _ ?_
      clear hK K
      refine wpAny_take (i := 4) (v := ?_) rfl (by kernel_rfl) (by kernel_rfl) (by kernel_rfl) (fun _ _ _ h => h) (Or.inl ⟨by rfl, ?_⟩) ?_
      rotate_left
      focus (intro w0; go_simp; try with_reducible rfl)
      refine wpAny_seq 5 rfl (by kernel_rfl) ?_
      simp only [List.drop_succ_cons, List.drop_zero]
    all_goals go_wp2_with fail
    all_goals first
      | (go_returns; exact ⟨rfl, hB, hD⟩)
      | (refine Calls.mono (H2.out _) ?_; rintro e w3 ⟨rfl, hb3, hd3⟩; go_wp2; go_returns; exact ⟨rfl, belowTo hB hb3, Nat.le_trans hD hd3⟩)
      | (refine Calls.mono (H3.out _) ?_; rintro e w3 ⟨rfl, hb3, hd3⟩; go_wp2; go_returns; exact ⟨rfl, belowTo hB hb3, Nat.le_trans hD hd3⟩)
/-- the comparison that is handed to slices.SortFunc -/
theorem sorted1_g (u v : V2) (w : World) (h1 : vecB u.1 u.2 = true) (h2 : vecB v.1 v.2 = true) :
    Calls Tryd.prog 127 #[.agg #[.int .i64 u.1, .int .i64 u.2], .agg #[.int .i64 v.1, .int .i64 v.2]] w fun e w' => e = .returned (.int .i64 (cmpV u v)) ∧ Below w.heap.size w w' ∧ w.drawn ≤ w'.drawn := by
  have H1 := Lib.hid (fun w' => ahead_g u.1 u.2 v.1 v.2 w' h1 h2)
  have H2 := Lib.hid (fun w' => ahead_g v.1 v.2 u.1 u.2 w' h2 h1)
  clear h1 h2
  unfold cmpV aheadV
  obtain ⟨x1, y1⟩ := u
  obtain ⟨x2, y2⟩ := v
  dsimp only at *
  generalize aheadB x1 y1 x2 y2 = p at *
  generalize aheadB x2 y2 x1 y1 = q at *
  go_enter Tryd.func127, Tryd.ntmps127
  go_wp2_with fail
  refine Calls.mono (H1.out _) ?_
  rintro e w1 ⟨rfl, hb1, hd1⟩
  have hB : Below w.heap.size w w1 := belowTo (by go_grown) hb1
  have hD : w.drawn ≤ w1.drawn := hd1
  have a0 : w1.cell? ⟨w.heap.size, 0, none⟩ = some (.int .i64 x1) := (hb1.cell (p := ⟨w.heap.size, 0, none⟩) (by simp only [World.size_alloc]; omega)).trans (by simp)
  have a1 : w1.cell? ⟨w.heap.size, 1, none⟩ = some (.int .i64 y1) := (hb1.cell (p := ⟨w.heap.size, 1, none⟩) (by simp only [World.size_alloc]; omega)).trans (by simp)
  have b0 : w1.cell? ⟨w.heap.size + 1, 0, none⟩ = some (.int .i64 x2) := (hb1.cell (p := ⟨w.heap.size + 1, 0, none⟩) (by simp only [World.size_alloc]; omega)).trans (by simp)
  have b1 : w1.cell? ⟨w.heap.size + 1, 1, none⟩ = some (.int .i64 y2) := (hb1.cell (p := ⟨w.heap.size + 1, 1, none⟩) (by simp only [World.size_alloc]; omega)).trans (by simp)
  have hs : w.heap.size + 1 + 1 ≤ w1.heap.size := Nat.le_trans (by simp) hb1.size
  clear hb1 hd1
  cases p
  · go_wp2_with fail
    refine Calls.mono (H2.out _) ?_
    rintro e w2 ⟨rfl, hb2, hd2⟩
    replace hB := belowTo hB hb2
    replace hD := Nat.le_trans hD hd2
    clear hb2 hd2
    cases q
    · go_wp2
      go_returns
      exact ⟨rfl, hB, hD⟩
    · go_wp2
      go_returns
      exact ⟨rfl, hB, hD⟩
  · go_wp2
    go_returns
    exact ⟨rfl, hB, hD⟩
def encP (x : PV) : List Value := [.int .i64 x.1.1, .int .i64 x.1.2]
theorem cmpLays (blk off size : Nat) (w : World) : CmpLays Tryd.prog 127 #[] encP 2 cfP blk off size w := by
  intro m os dk _ x y
  refine (sorted1_g x.1 y.1 _ (prim_in x.2).1 (prim_in y.2).1).mono ?_
  rintro e w' ⟨rfl, hb, hd⟩
  exact ⟨rfl, grow_of hb hd⟩
end Go.Proofs.YtcieihbknfeddaaDoor
