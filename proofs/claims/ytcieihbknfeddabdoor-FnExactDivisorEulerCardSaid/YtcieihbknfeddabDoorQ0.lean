/- Degrees added, subtracted: the program. -/
import Derived.Test.YtcieihbknfeddabDoorBe
namespace Go.Proofs.YtcieihbknfeddabDoor
open Go.RowKit

theorem tdiv2P {p : Int} (h : -808000808000 ≤ p ∧ p ≤ 808000808000) : -808000808000 ≤ p.tdiv 2 ∧ p.tdiv 2 ≤ 808000808000 := by
  by_cases h0 : 0 ≤ p
  · rw [Int.tdiv_eq_ediv_of_nonneg h0]
    omega
  · obtain ⟨q, rfl⟩ : ∃ q, p = -q := ⟨-p, by omega⟩
    rw [Int.neg_tdiv, Int.tdiv_eq_ediv_of_nonneg (by omega)]
    omega
set_option maxHeartbeats 8000000 in
theorem degMinus1_any (P1 P2 B1 B2 C1 C2 : Nat) (l : List V2) (d e : List Int) (i : Nat) (w : World)
    (h1 : w.cell? ⟨P1, 0, none⟩ = some (.func (.func 103) #[] #[.pointer (some ⟨B1, 0, none⟩), .pointer (some ⟨B2, 0, none⟩)]))
    (h2 : w.cell? ⟨P2, 0, none⟩ = some (.func (.func 103) #[] #[.pointer (some ⟨C1, 0, none⟩), .pointer (some ⟨C2, 0, none⟩)]))
    (hX : DegBox w B1 B2 l d) (hY : DegBox w C1 C2 l e) (hi : i < l.length) (hd : d.length = l.length) (he : e.length = l.length) (hS : Smooth l) (hb : bnd 101 d) (hb2 : bnd 101 e) (hm : l.length ≤ 1000) :
    Calls Tryd.prog 137 #[.int .i64 (i : Int), .pointer (some ⟨P1, 0, none⟩), .pointer (some ⟨P2, 0, none⟩)] w fun e' w' => e' = .returned (.int .i64 (degZ l d i + -1 * degZ l e i)) ∧ Below w.heap.size w w' := by
  have H1 := Lib.hid (fun w' (hb' : Below w.heap.size w w') => degree1_any B1 B2 l d i w' (hX.below hb') hi hd hS hb hm)
  have H2 := Lib.hid (fun w' (hb' : Below w.heap.size w w') => degree1_any C1 C2 l e i w' (hY.below hb') hi he hS hb2 hm)
  have b1 := deg_bnd hS hb i
  have b2 := deg_bnd hS hb2 i
  have s1 := cell_lt h1
  have s2 := cell_lt h2
  clear hX hY hi hd he hS hb hb2 hm
  generalize degZ l d i = x at *
  generalize degZ l e i = y at *
  rw [show x + -1 * y = x - y by omega]
  have q1 : IntKind.i64.wrap (x - y) = x - y := by rw [IntKind.wrap_i64]; omega
  have hA : Below w.heap.size w w := Below.refl _ _
  go_enter Tryd.func137, Tryd.ntmps137
  go_wp2
  refine wp_region_any (by kernel_rfl) ?_
  try (change wpAny _ _ _ _ _ _ _ (World.drew _))
  refine wpAny_take (i := 1) (v := ?_) rfl (by kernel_rfl) (by kernel_rfl) (by kernel_rfl) (fun _ _ _ h => h) (Or.inl ⟨by rfl, ?_⟩) ?_
  rotate_left
  focus (intro w0; go_simp; try with_reducible rfl)
  refine wpAny_take (i := 4) (v := ?_) rfl (by kernel_rfl) (by kernel_rfl) (by kernel_rfl) (fun _ _ _ h => h) (Or.inl ⟨by rfl, ?_⟩) ?_
  rotate_left
  focus (intro w0; go_simp; try with_reducible rfl)
  refine wpAny_ready (rs := [0, 3]) (by kernel_rfl) (by simp) (AllReady.cons rfl (fun K hK => ?_) (AllReady.cons rfl (fun K hK => ?_) (AllReady.nil)))
  focus
    go_simp
    refine hK _ _ ?_
    clear hK K
    refine wpAny_ready (rs := [2, 3]) (by kernel_rfl) (by simp) (AllReady.cons rfl (fun K hK => ?_) (AllReady.cons rfl (fun K hK => ?_) (AllReady.nil)))
    focus
      go_simp
      (refine Calls.mono (H1.out _ (by go_grown)) ?_; rintro e' w2 ⟨rfl, hbX⟩; replace hbX := undrew hbX; replace h2 := (hbX.cell (p := ⟨P2, 0, none⟩) s2).trans h2; have hA2 := belowTo hA hbX; clear hbX h1)
      refine hK _ _ ?_
      clear hK K
      refine wpAny_ready (rs := [3]) (by kernel_rfl) (by simp) (AllReady.cons rfl (fun K hK => ?_) (AllReady.nil))
      go_simp
      refine hK _ _ ?_
      clear hK K
      refine wpAny_ready (rs := [5]) (by kernel_rfl) (by simp) (AllReady.cons rfl (fun K hK => ?_) (AllReady.nil))
      go_simp
      (refine Calls.mono (H2.out _ hA2) ?_; rintro e' w3 ⟨rfl, hbY⟩; replace hA2 := belowTo hA2 hbY; clear hbY h2)
      refine hK _ _ ?_
      clear hK K
      refine wpAny_seq 6 rfl (by kernel_rfl) ?_
      simp only [List.drop_succ_cons, List.drop_zero]
    rotate_left 1
    focus
      go_simp
      refine hK _ _ ?_
      clear hK K
      refine wpAny_ready (rs := [2]) (by kernel_rfl) (by simp) (AllReady.cons rfl (fun K hK => ?_) (AllReady.nil))
      go_simp
      (refine Calls.mono (H1.out _ (by go_grown)) ?_; rintro e' w2 ⟨rfl, hbX⟩; replace hbX := undrew hbX; replace h2 := (hbX.cell (p := ⟨P2, 0, none⟩) s2).trans h2; have hA2 := belowTo hA hbX; clear hbX h1)
      refine hK _ _ ?_
      clear hK K
      refine wpAny_ready (rs := [5]) (by kernel_rfl) (by simp) (AllReady.cons rfl (fun K hK => ?_) (AllReady.nil))
      go_simp
      (refine Calls.mono (H2.out _ hA2) ?_; rintro e' w3 ⟨rfl, hbY⟩; replace hA2 := belowTo hA2 hbY; clear hbY h2)
      refine hK _ _ ?_
      clear hK K
      refine wpAny_seq 6 rfl (by kernel_rfl) ?_
      simp only [List.drop_succ_cons, List.drop_zero]
  rotate_left 2
  focus
    go_simp
    refine hK _ _ ?_
    clear hK K
    refine wpAny_ready (rs := [0]) (by kernel_rfl) (by simp) (AllReady.cons rfl (fun K hK => ?_) (AllReady.nil))
    go_simp
    refine hK _ _ ?_
    clear hK K
    refine wpAny_ready (rs := [2]) (by kernel_rfl) (by simp) (AllReady.cons rfl (fun K hK => ?_) (AllReady.nil))
    go_simp
    (refine Calls.mono (H1.out _ (by go_grown)) ?_; rintro e' w2 ⟨rfl, hbX⟩; replace hbX := undrew hbX; replace h2 := (hbX.cell (p := ⟨P2, 0, none⟩) s2).trans h2; have hA2 := belowTo hA hbX; clear hbX h1)
    refine hK _ _ ?_
    clear hK K
    refine wpAny_ready (rs := [5]) (by kernel_rfl) (by simp) (AllReady.cons rfl (fun K hK => ?_) (AllReady.nil))
    go_simp
    (refine Calls.mono (H2.out _ hA2) ?_; rintro e' w3 ⟨rfl, hbY⟩; replace hA2 := belowTo hA2 hbY; clear hbY h2)
    refine hK _ _ ?_
    clear hK K
    refine wpAny_seq 6 rfl (by kernel_rfl) ?_
    simp only [List.drop_succ_cons, List.drop_zero]
  all_goals
    go_wp2
    go_returns
    exact ⟨rfl, hA2⟩
set_option maxHeartbeats 4000000 in
theorem degMinus_any (B1 B2 C1 C2 : Nat) (w : World) :
    Calls Tryd.prog 113 #[.func (.func 103) #[] #[.pointer (some ⟨B1, 0, none⟩), .pointer (some ⟨B2, 0, none⟩)], .func (.func 103) #[] #[.pointer (some ⟨C1, 0, none⟩), .pointer (some ⟨C2, 0, none⟩)]] w fun e w' =>
      ∃ P1 P2, e = .returned (.func (.func 137) #[] #[.pointer (some ⟨P1, 0, none⟩), .pointer (some ⟨P2, 0, none⟩)]) ∧
        w'.cell? ⟨P1, 0, none⟩ = some (.func (.func 103) #[] #[.pointer (some ⟨B1, 0, none⟩), .pointer (some ⟨B2, 0, none⟩)]) ∧
        w'.cell? ⟨P2, 0, none⟩ = some (.func (.func 103) #[] #[.pointer (some ⟨C1, 0, none⟩), .pointer (some ⟨C2, 0, none⟩)]) ∧ Below w.heap.size w w' := by
  go_enter Tryd.func113, Tryd.ntmps113
  go_wp2
  go_returns
  exact ⟨w.heap.size, w.heap.size + 1, rfl, by first | (go_cell; done) | (go_simp; done) | (simp; done), by first | (go_cell; done) | (go_simp; done) | (simp; done), by go_grown⟩
set_option maxHeartbeats 8000000 in
theorem degPlus1_any (P1 P2 B1 B2 C1 C2 : Nat) (l : List V2) (d e : List Int) (i : Nat) (w : World)
    (h1 : w.cell? ⟨P1, 0, none⟩ = some (.func (.func 103) #[] #[.pointer (some ⟨B1, 0, none⟩), .pointer (some ⟨B2, 0, none⟩)]))
    (h2 : w.cell? ⟨P2, 0, none⟩ = some (.func (.func 103) #[] #[.pointer (some ⟨C1, 0, none⟩), .pointer (some ⟨C2, 0, none⟩)]))
    (hX : DegBox w B1 B2 l d) (hY : DegBox w C1 C2 l e) (hi : i < l.length) (hd : d.length = l.length) (he : e.length = l.length) (hS : Smooth l) (hb : bnd 101 d) (hb2 : bnd 101 e) (hm : l.length ≤ 1000) :
    Calls Tryd.prog 138 #[.int .i64 (i : Int), .pointer (some ⟨P1, 0, none⟩), .pointer (some ⟨P2, 0, none⟩)] w fun e' w' => e' = .returned (.int .i64 (degZ l d i + 1 * degZ l e i)) ∧ Below w.heap.size w w' := by
  have H1 := Lib.hid (fun w' (hb' : Below w.heap.size w w') => degree1_any B1 B2 l d i w' (hX.below hb') hi hd hS hb hm)
  have H2 := Lib.hid (fun w' (hb' : Below w.heap.size w w') => degree1_any C1 C2 l e i w' (hY.below hb') hi he hS hb2 hm)
  have b1 := deg_bnd hS hb i
  have b2 := deg_bnd hS hb2 i
  have s1 := cell_lt h1
  have s2 := cell_lt h2
  clear hX hY hi hd he hS hb hb2 hm
  generalize degZ l d i = x at *
  generalize degZ l e i = y at *
  rw [show x + 1 * y = x + y by omega]
  have q1 : IntKind.i64.wrap (x + y) = x + y := by rw [IntKind.wrap_i64]; omega
  have hA : Below w.heap.size w w := Below.refl _ _
  go_enter Tryd.func138, Tryd.ntmps138
  go_wp2
  refine wp_region_any (by kernel_rfl) ?_
  try (change wpAny _ _ _ _ _ _ _ (World.drew _))
  refine wpAny_take (i := 1) (v := ?_) rfl (by kernel_rfl) (by kernel_rfl) (by kernel_rfl) (fun _ _ _ h => h) (Or.inl ⟨by rfl, ?_⟩) ?_
  rotate_left
  focus (intro w0; go_simp; try with_reducible rfl)
  refine wpAny_take (i := 4) (v := ?_) rfl (by kernel_rfl) (by kernel_rfl) (by kernel_rfl) (fun _ _ _ h => h) (Or.inl ⟨by rfl, ?_⟩) ?_
  rotate_left
  focus (intro w0; go_simp; try with_reducible rfl)
  refine wpAny_ready (rs := [0, 3]) (by kernel_rfl) (by simp) (AllReady.cons rfl (fun K hK => ?_) (AllReady.cons rfl (fun K hK => ?_) (AllReady.nil)))
  focus
    go_simp
    refine hK _ _ ?_
    clear hK K
    refine wpAny_ready (rs := [2, 3]) (by kernel_rfl) (by simp) (AllReady.cons rfl (fun K hK => ?_) (AllReady.cons rfl (fun K hK => ?_) (AllReady.nil)))
    focus
      go_simp
      (refine Calls.mono (H1.out _ (by go_grown)) ?_; rintro e' w2 ⟨rfl, hbX⟩; replace hbX := undrew hbX; replace h2 := (hbX.cell (p := ⟨P2, 0, none⟩) s2).trans h2; have hA2 := belowTo hA hbX; clear hbX h1)
      refine hK _ _ ?_
      clear hK K
      refine wpAny_ready (rs := [3]) (by kernel_rfl) (by simp) (AllReady.cons rfl (fun K hK => ?_) (AllReady.nil))
      go_simp
      refine hK _ _ ?_
      clear hK K
      refine wpAny_ready (rs := [5]) (by kernel_rfl) (by simp) (AllReady.cons rfl (fun K hK => ?_) (AllReady.nil))
      go_simp
      (refine Calls.mono (H2.out _ hA2) ?_; rintro e' w3 ⟨rfl, hbY⟩; replace hA2 := belowTo hA2 hbY; clear hbY h2)
      refine hK _ _ ?_
      clear hK K
      refine wpAny_seq 6 rfl (by kernel_rfl) ?_
      simp only [List.drop_succ_cons, List.drop_zero]
    rotate_left 1
    focus
      go_simp
      refine hK _ _ ?_
      clear hK K
      refine wpAny_ready (rs := [2]) (by kernel_rfl) (by simp) (AllReady.cons rfl (fun K hK => ?_) (AllReady.nil))
      go_simp
      (refine Calls.mono (H1.out _ (by go_grown)) ?_; rintro e' w2 ⟨rfl, hbX⟩; replace hbX := undrew hbX; replace h2 := (hbX.cell (p := ⟨P2, 0, none⟩) s2).trans h2; have hA2 := belowTo hA hbX; clear hbX h1)
      refine hK _ _ ?_
      clear hK K
      refine wpAny_ready (rs := [5]) (by kernel_rfl) (by simp) (AllReady.cons rfl (fun K hK => ?_) (AllReady.nil))
      go_simp
      (refine Calls.mono (H2.out _ hA2) ?_; rintro e' w3 ⟨rfl, hbY⟩; replace hA2 := belowTo hA2 hbY; clear hbY h2)
      refine hK _ _ ?_
      clear hK K
      refine wpAny_seq 6 rfl (by kernel_rfl) ?_
      simp only [List.drop_succ_cons, List.drop_zero]
  rotate_left 2
  focus
    go_simp
    refine hK _ _ ?_
    clear hK K
    refine wpAny_ready (rs := [0]) (by kernel_rfl) (by simp) (AllReady.cons rfl (fun K hK => ?_) (AllReady.nil))
    go_simp
    refine hK _ _ ?_
    clear hK K
    refine wpAny_ready (rs := [2]) (by kernel_rfl) (by simp) (AllReady.cons rfl (fun K hK => ?_) (AllReady.nil))
    go_simp
    (refine Calls.mono (H1.out _ (by go_grown)) ?_; rintro e' w2 ⟨rfl, hbX⟩; replace hbX := undrew hbX; replace h2 := (hbX.cell (p := ⟨P2, 0, none⟩) s2).trans h2; have hA2 := belowTo hA hbX; clear hbX h1)
    refine hK _ _ ?_
    clear hK K
    refine wpAny_ready (rs := [5]) (by kernel_rfl) (by simp) (AllReady.cons rfl (fun K hK => ?_) (AllReady.nil))
    go_simp
    (refine Calls.mono (H2.out _ hA2) ?_; rintro e' w3 ⟨rfl, hbY⟩; replace hA2 := belowTo hA2 hbY; clear hbY h2)
    refine hK _ _ ?_
    clear hK K
    refine wpAny_seq 6 rfl (by kernel_rfl) ?_
    simp only [List.drop_succ_cons, List.drop_zero]
  all_goals
    go_wp2
    go_returns
    exact ⟨rfl, hA2⟩
set_option maxHeartbeats 4000000 in
theorem degPlus_any (B1 B2 C1 C2 : Nat) (w : World) :
    Calls Tryd.prog 114 #[.func (.func 103) #[] #[.pointer (some ⟨B1, 0, none⟩), .pointer (some ⟨B2, 0, none⟩)], .func (.func 103) #[] #[.pointer (some ⟨C1, 0, none⟩), .pointer (some ⟨C2, 0, none⟩)]] w fun e w' =>
      ∃ P1 P2, e = .returned (.func (.func 138) #[] #[.pointer (some ⟨P1, 0, none⟩), .pointer (some ⟨P2, 0, none⟩)]) ∧
        w'.cell? ⟨P1, 0, none⟩ = some (.func (.func 103) #[] #[.pointer (some ⟨B1, 0, none⟩), .pointer (some ⟨B2, 0, none⟩)]) ∧
        w'.cell? ⟨P2, 0, none⟩ = some (.func (.func 103) #[] #[.pointer (some ⟨C1, 0, none⟩), .pointer (some ⟨C2, 0, none⟩)]) ∧ Below w.heap.size w w' := by
  go_enter Tryd.func114, Tryd.ntmps114
  go_wp2
  go_returns
  exact ⟨w.heap.size, w.heap.size + 1, rfl, by first | (go_cell; done) | (go_simp; done) | (simp; done), by first | (go_cell; done) | (go_simp; done) | (simp; done), by go_grown⟩
end Go.Proofs.YtcieihbknfeddabDoor
