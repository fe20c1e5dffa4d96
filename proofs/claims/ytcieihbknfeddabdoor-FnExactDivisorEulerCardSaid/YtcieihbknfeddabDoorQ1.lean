/- Euler numbers: the program. -/
import Derived.Test.YtcieihbknfeddabDoorQ0
import Derived.Test.YtcieihbknfeddabDoorQk
import Derived.Test.YtcieihbknfeddabDoorBe
namespace Go.Proofs.YtcieihbknfeddabDoor
open Go.RowKit

set_option maxRecDepth 100000 in
set_option maxHeartbeats 32000000 in
theorem euler_any (base g : Nat) (ns : List Node) (u : Value) (d : List Int) (w : World) (hF : FanAt w base g ns) (hD : divB (rays ns) d = true) (hu : ReadsInts w u d) :
    Calls Tryd.prog 84 #[.agg #[.pointer (some ⟨g, 0, none⟩), u]] w fun e w' => e = .returned (.int .i64 (eulZ (rays ns) d (-1))) ∧ Below w.heap.size w w' := by
  have hlen := div_len hD
  have hS := div_smooth hD
  have hdl := (div_in hD).2.1
  have hdb := div_bnd hD
  have hnl : ns.length = (rays ns).length := (rays_len ns).symm
  have hg1 := hF.head.c1
  have hgl := cell_lt hg1
  rw [hnl] at hg1
  have H1 := Lib.hid (fun w' (hb : Below w.heap.size w w') => degree_any base g ns u d w' (hF.below hb) (by omega) hS.1 (hu.below hb))
  have H2 := Lib.hid (fun w' (hb : Below w.heap.size w w') => canonical_any g (rays ns).length w' ((hb.cell (p := ⟨g, 1, none⟩) hgl).trans hg1) (by omega) (by omega))
  have H3 := Lib.hid (fun v' w' (hb : Below w.heap.size w w') (hI : ReadsInts w' v' (canL (rays ns).length)) => degree_any base g ns v' (canL (rays ns).length) w' (hF.below hb) (by omega) hS.1 hI)
  have H4 := Lib.hid (fun B1 B2 C1 C2 w' => degMinus_any B1 B2 C1 C2 w')
  have hcl : (canL (rays ns).length).length = (rays ns).length := by simp [canL]
  have hq : ∀ i, -404000404 ≤ degZ (rays ns) d i + -1 * degZ (rays ns) (canL (rays ns).length) i ∧ degZ (rays ns) d i + -1 * degZ (rays ns) (canL (rays ns).length) i ≤ 404000404 := fun i => by
    have := deg_bnd hS (bnd_mono hdb (show (100 : Int) ≤ 101 by omega)) i
    have := deg_bnd hS (bnd_mono (can_bnd (rays ns).length) (show (1 : Int) ≤ 101 by omega)) i
    omega
  have H5 := Lib.hid (fun P1 P2 B1 B2 C1 C2 w' (hb : Below w.heap.size w w')
      (c1 : (w' : World).cell? ⟨P1, 0, none⟩ = some (.func (.func 103) #[] #[.pointer (some ⟨B1, 0, none⟩), .pointer (some ⟨B2, 0, none⟩)]))
      (c2 : (w' : World).cell? ⟨P2, 0, none⟩ = some (.func (.func 103) #[] #[.pointer (some ⟨C1, 0, none⟩), .pointer (some ⟨C2, 0, none⟩)]))
      (hX : DegBox w' B1 B2 (rays ns) d) (hY : DegBox w' C1 C2 (rays ns) (canL (rays ns).length)) =>
    product_minus P1 P2 (.pointer (some ⟨g, 0, none⟩)) u d (fun i => degZ (rays ns) d i + -1 * degZ (rays ns) (canL (rays ns).length) i) w' (hu.below hb) (by omega) hdb hq
      (fun i hi w2 h2 => degMinus1_any P1 P2 B1 B2 C1 C2 (rays ns) d (canL (rays ns).length) i w2 ((h2.cell (p := ⟨P1, 0, none⟩) (cell_lt c1)).trans c1) ((h2.cell (p := ⟨P2, 0, none⟩) (cell_lt c2)).trans c2) (hX.below h2) (hY.below h2) (by omega) hdl hcl hS (bnd_mono hdb (by omega)) (bnd_mono (can_bnd _) (by omega)) (by omega)))
  have hpb := dot_bnd hdb hq (k := (rays ns).length) (by omega)
  have hE : eulZ (rays ns) d (-1) = 1 + (dotD d (fun i => degZ (rays ns) d i + -1 * degZ (rays ns) (canL (rays ns).length) i) (rays ns).length).tdiv 2 := rfl
  rw [hE]
  rw [hdl] at H5
  have HCl : Hid ((canL (rays ns).length).length ≤ 1000) := by show _ ≤ _; omega
  obtain ⟨p1, q1, rfl, _⟩ := hu.len
  have htb : -808000808000 ≤ (dotD d (fun i => degZ (rays ns) d i + -1 * degZ (rays ns) (canL (rays ns).length) i) (rays ns).length).tdiv 2 ∧ (dotD d (fun i => degZ (rays ns) d i + -1 * degZ (rays ns) (canL (rays ns).length) i) (rays ns).length).tdiv 2 ≤ 808000808000 := tdiv2P hpb
  clear hF hD hu hlen hS hdl hdb hnl hg1 hgl hcl hq hE
  generalize dotD d (fun i => degZ (rays ns) d i + -1 * degZ (rays ns) (canL (rays ns).length) i) (rays ns).length = z at *
  have q2 : IntKind.i64.wrap (z.tdiv 2) = z.tdiv 2 := by rw [IntKind.wrap_i64]; omega
  have q3 : IntKind.i64.wrap (1 + z.tdiv 2) = 1 + z.tdiv 2 := by rw [IntKind.wrap_i64]; omega
  go_enter Tryd.func84, Tryd.ntmps84
  go_wp2
  have hA : Below w.heap.size w (w.alloc (.cells #[.pointer (some ⟨g, 0, none⟩), .slice p1 d.length q1] 60)) := by go_grown
  have x0 : (w.alloc (.cells #[.pointer (some ⟨g, 0, none⟩), .slice p1 d.length q1] 60)).cell? ⟨w.heap.size, 0, none⟩ = some (.pointer (some ⟨g, 0, none⟩)) := by simp
  have x1 : (w.alloc (.cells #[.pointer (some ⟨g, 0, none⟩), .slice p1 d.length q1] 60)).cell? ⟨w.heap.size, 1, none⟩ = some (.slice p1 d.length q1) := by simp
  generalize (w.alloc (.cells #[.pointer (some ⟨g, 0, none⟩), .slice p1 d.length q1] 60)) = W2 at *
  have s0 := cell_lt x0
  refine wp_region_any (by kernel_rfl) ?_
  try (change wpAny _ _ _ _ _ _ _ (World.drew _))
  refine wpAny_take (i := 3) (v := ?_) rfl (by kernel_rfl) (by kernel_rfl) (by kernel_rfl) (fun _ _ _ h => h) (Or.inl ⟨by rfl, ?_⟩) ?_
  rotate_left
  focus (intro w0; go_simp; try with_reducible rfl)
  refine wpAny_ready (rs := [0, 1, 4]) (by kernel_rfl) (by simp) (AllReady.cons rfl (fun K hK => ?_) (AllReady.cons rfl (fun K hK => ?_) (AllReady.cons rfl (fun K hK => ?_) (AllReady.nil))))
  focus
    go_simp
    refine hK _ _ ?_
    clear hK K
    refine wpAny_ready (rs := [1, 4]) (by kernel_rfl) (by simp) (AllReady.cons rfl (fun K hK => ?_) (AllReady.cons rfl (fun K hK => ?_) (AllReady.nil)))
    focus
      go_simp
      refine hK _ _ ?_
      clear hK K
      refine wpAny_ready (rs := [2, 4]) (by kernel_rfl) (by simp) (AllReady.cons rfl (fun K hK => ?_) (AllReady.cons rfl (fun K hK => ?_) (AllReady.nil)))
      focus
        go_simp
        (refine Calls.mono (H1.out _ (by go_grown)) ?_; rintro e w3 ⟨B1, B2, rfl, hX, hbX⟩; replace hbX := undrew hbX; replace x0 := (hbX.cell (p := ⟨w.heap.size, 0, none⟩) s0).trans x0; replace x1 := (hbX.cell (p := ⟨w.heap.size, 1, none⟩) s0).trans x1; replace hA := belowTo hA hbX; replace s0 := cell_lt x0; clear hbX)
        refine hK _ _ ?_
        clear hK K
        refine wpAny_ready (rs := [4]) (by kernel_rfl) (by simp) (AllReady.cons rfl (fun K hK => ?_) (AllReady.nil))
        go_simp
        refine hK _ _ ?_
        clear hK K
        refine wpAny_ready (rs := [5]) (by kernel_rfl) (by simp) (AllReady.cons rfl (fun K hK => ?_) (AllReady.nil))
        go_simp
        (refine Calls.mono (H2.out _ hA) ?_; rintro e w4 ⟨v4, rfl, hI, hbX⟩; have hR := hI.reads (show (canL (rays ns).length).length ≤ 1152921504606846976 by have := HCl.out; omega); replace hX := hX.below hbX; replace x0 := (hbX.cell (p := ⟨w.heap.size, 0, none⟩) s0).trans x0; replace x1 := (hbX.cell (p := ⟨w.heap.size, 1, none⟩) s0).trans x1; replace hA := belowTo hA hbX; replace s0 := cell_lt x0; clear hbX hI)
        refine hK _ _ ?_
        clear hK K
        refine wpAny_ready (rs := [6]) (by kernel_rfl) (by simp) (AllReady.cons rfl (fun K hK => ?_) (AllReady.nil))
        go_simp
        (refine Calls.mono (H3.out _ _ hA hR) ?_; rintro e w5 ⟨C1, C2, rfl, hY, hbX⟩; replace hX := hX.below hbX; replace x0 := (hbX.cell (p := ⟨w.heap.size, 0, none⟩) s0).trans x0; replace x1 := (hbX.cell (p := ⟨w.heap.size, 1, none⟩) s0).trans x1; replace hA := belowTo hA hbX; replace s0 := cell_lt x0; clear hbX hR)
        refine hK _ _ ?_
        clear hK K
        refine wpAny_ready (rs := [7]) (by kernel_rfl) (by simp) (AllReady.cons rfl (fun K hK => ?_) (AllReady.nil))
        go_simp
        (refine Calls.mono (H4.out _ _ _ _ _) ?_; rintro e w6 ⟨P1, P2, rfl, hp1, hp2, hbX⟩; replace hX := hX.below hbX; replace hY := hY.below hbX; replace x0 := (hbX.cell (p := ⟨w.heap.size, 0, none⟩) s0).trans x0; replace x1 := (hbX.cell (p := ⟨w.heap.size, 1, none⟩) s0).trans x1; replace hA := belowTo hA hbX; replace s0 := cell_lt x0; clear hbX)
        refine hK _ _ ?_
        clear hK K
        refine wpAny_ready (rs := [8]) (by kernel_rfl) (by simp) (AllReady.cons rfl (fun K hK => ?_) (AllReady.nil))
        go_simp
        (refine Calls.mono (H5.out _ _ _ _ _ _ _ hA hp1 hp2 hX hY) ?_; rintro e w7 ⟨rfl, hbX⟩; replace hA := belowTo hA hbX; clear hbX hp1 hp2)
        refine hK _ _ ?_
        clear hK K
        refine wpAny_seq 9 rfl (by kernel_rfl) ?_
        simp only [List.drop_succ_cons, List.drop_zero]
      rotate_left 1
      focus
        go_simp
        refine hK _ _ ?_
        clear hK K
        refine wpAny_ready (rs := [2]) (by kernel_rfl) (by simp) (AllReady.cons rfl (fun K hK => ?_) (AllReady.nil))
        go_simp
        (refine Calls.mono (H1.out _ (by go_grown)) ?_; rintro e w3 ⟨B1, B2, rfl, hX, hbX⟩; replace hbX := undrew hbX; replace x0 := (hbX.cell (p := ⟨w.heap.size, 0, none⟩) s0).trans x0; replace x1 := (hbX.cell (p := ⟨w.heap.size, 1, none⟩) s0).trans x1; replace hA := belowTo hA hbX; replace s0 := cell_lt x0; clear hbX)
        refine hK _ _ ?_
        clear hK K
        refine wpAny_ready (rs := [5]) (by kernel_rfl) (by simp) (AllReady.cons rfl (fun K hK => ?_) (AllReady.nil))
        go_simp
        (refine Calls.mono (H2.out _ hA) ?_; rintro e w4 ⟨v4, rfl, hI, hbX⟩; have hR := hI.reads (show (canL (rays ns).length).length ≤ 1152921504606846976 by have := HCl.out; omega); replace hX := hX.below hbX; replace x0 := (hbX.cell (p := ⟨w.heap.size, 0, none⟩) s0).trans x0; replace x1 := (hbX.cell (p := ⟨w.heap.size, 1, none⟩) s0).trans x1; replace hA := belowTo hA hbX; replace s0 := cell_lt x0; clear hbX hI)
        refine hK _ _ ?_
        clear hK K
        refine wpAny_ready (rs := [6]) (by kernel_rfl) (by simp) (AllReady.cons rfl (fun K hK => ?_) (AllReady.nil))
        go_simp
        (refine Calls.mono (H3.out _ _ hA hR) ?_; rintro e w5 ⟨C1, C2, rfl, hY, hbX⟩; replace hX := hX.below hbX; replace x0 := (hbX.cell (p := ⟨w.heap.size, 0, none⟩) s0).trans x0; replace x1 := (hbX.cell (p := ⟨w.heap.size, 1, none⟩) s0).trans x1; replace hA := belowTo hA hbX; replace s0 := cell_lt x0; clear hbX hR)
        refine hK _ _ ?_
        clear hK K
        refine wpAny_ready (rs := [7]) (by kernel_rfl) (by simp) (AllReady.cons rfl (fun K hK => ?_) (AllReady.nil))
        go_simp
        (refine Calls.mono (H4.out _ _ _ _ _) ?_; rintro e w6 ⟨P1, P2, rfl, hp1, hp2, hbX⟩; replace hX := hX.below hbX; replace hY := hY.below hbX; replace x0 := (hbX.cell (p := ⟨w.heap.size, 0, none⟩) s0).trans x0; replace x1 := (hbX.cell (p := ⟨w.heap.size, 1, none⟩) s0).trans x1; replace hA := belowTo hA hbX; replace s0 := cell_lt x0; clear hbX)
        refine hK _ _ ?_
        clear hK K
        refine wpAny_ready (rs := [8]) (by kernel_rfl) (by simp) (AllReady.cons rfl (fun K hK => ?_) (AllReady.nil))
        go_simp
        (refine Calls.mono (H5.out _ _ _ _ _ _ _ hA hp1 hp2 hX hY) ?_; rintro e w7 ⟨rfl, hbX⟩; replace hA := belowTo hA hbX; clear hbX hp1 hp2)
        refine hK _ _ ?_
        clear hK K
        refine wpAny_seq 9 rfl (by kernel_rfl) ?_
        simp only [List.drop_succ_cons, List.drop_zero]
    rotate_left 2
    focus
      go_simp
      refine hK _ _ ?_
      clear hK K
      refine wpAny_ready (rs := [1]) (by kernel_rfl) (by simp) (AllReady.cons rfl (fun K hK => ?_) (AllReady.nil))
      go_simp
      refine hK _ _ ?_
      clear hK K
      refine wpAny_ready (rs := [2]) (by kernel_rfl) (by simp) (AllReady.cons rfl (fun K hK => ?_) (AllReady.nil))
      go_simp
      (refine Calls.mono (H1.out _ (by go_grown)) ?_; rintro e w3 ⟨B1, B2, rfl, hX, hbX⟩; replace hbX := undrew hbX; replace x0 := (hbX.cell (p := ⟨w.heap.size, 0, none⟩) s0).trans x0; replace x1 := (hbX.cell (p := ⟨w.heap.size, 1, none⟩) s0).trans x1; replace hA := belowTo hA hbX; replace s0 := cell_lt x0; clear hbX)
      refine hK _ _ ?_
      clear hK K
      refine wpAny_ready (rs := [5]) (by kernel_rfl) (by simp) (AllReady.cons rfl (fun K hK => ?_) (AllReady.nil))
      go_simp
      (refine Calls.mono (H2.out _ hA) ?_; rintro e w4 ⟨v4, rfl, hI, hbX⟩; have hR := hI.reads (show (canL (rays ns).length).length ≤ 1152921504606846976 by have := HCl.out; omega); replace hX := hX.below hbX; replace x0 := (hbX.cell (p := ⟨w.heap.size, 0, none⟩) s0).trans x0; replace x1 := (hbX.cell (p := ⟨w.heap.size, 1, none⟩) s0).trans x1; replace hA := belowTo hA hbX; replace s0 := cell_lt x0; clear hbX hI)
      refine hK _ _ ?_
      clear hK K
      refine wpAny_ready (rs := [6]) (by kernel_rfl) (by simp) (AllReady.cons rfl (fun K hK => ?_) (AllReady.nil))
      go_simp
      (refine Calls.mono (H3.out _ _ hA hR) ?_; rintro e w5 ⟨C1, C2, rfl, hY, hbX⟩; replace hX := hX.below hbX; replace x0 := (hbX.cell (p := ⟨w.heap.size, 0, none⟩) s0).trans x0; replace x1 := (hbX.cell (p := ⟨w.heap.size, 1, none⟩) s0).trans x1; replace hA := belowTo hA hbX; replace s0 := cell_lt x0; clear hbX hR)
      refine hK _ _ ?_
      clear hK K
      refine wpAny_ready (rs := [7]) (by kernel_rfl) (by simp) (AllReady.cons rfl (fun K hK => ?_) (AllReady.nil))
      go_simp
      (refine Calls.mono (H4.out _ _ _ _ _) ?_; rintro e w6 ⟨P1, P2, rfl, hp1, hp2, hbX⟩; replace hX := hX.below hbX; replace hY := hY.below hbX; replace x0 := (hbX.cell (p := ⟨w.heap.size, 0, none⟩) s0).trans x0; replace x1 := (hbX.cell (p := ⟨w.heap.size, 1, none⟩) s0).trans x1; replace hA := belowTo hA hbX; replace s0 := cell_lt x0; clear hbX)
      refine hK _ _ ?_
      clear hK K
      refine wpAny_ready (rs := [8]) (by kernel_rfl) (by simp) (AllReady.cons rfl (fun K hK => ?_) (AllReady.nil))
      go_simp
      (refine Calls.mono (H5.out _ _ _ _ _ _ _ hA hp1 hp2 hX hY) ?_; rintro e w7 ⟨rfl, hbX⟩; replace hA := belowTo hA hbX; clear hbX hp1 hp2)
      refine hK _ _ ?_
      clear hK K
      refine wpAny_seq 9 rfl (by kernel_rfl) ?_
      simp only [List.drop_succ_cons, List.drop_zero]
  rotate_left 3
  focus
    go_simp
    refine hK _ _ ?_
    clear hK K
    refine wpAny_ready (rs := [0, 2, 4]) (by kernel_rfl) (by simp) (AllReady.cons rfl (fun K hK => ?_) (AllReady.cons rfl (fun K hK => ?_) (AllReady.cons rfl (fun K hK => ?_) (AllReady.nil))))
    focus
      go_simp
      refine hK _ _ ?_
      clear hK K
      refine wpAny_ready (rs := [2, 4]) (by kernel_rfl) (by simp) (AllReady.cons rfl (fun K hK => ?_) (AllReady.cons rfl (fun K hK => ?_) (AllReady.nil)))
      focus
        go_simp
        (refine Calls.mono (H1.out _ (by go_grown)) ?_; rintro e w3 ⟨B1, B2, rfl, hX, hbX⟩; replace hbX := undrew hbX; replace x0 := (hbX.cell (p := ⟨w.heap.size, 0, none⟩) s0).trans x0; replace x1 := (hbX.cell (p := ⟨w.heap.size, 1, none⟩) s0).trans x1; replace hA := belowTo hA hbX; replace s0 := cell_lt x0; clear hbX)
        refine hK _ _ ?_
        clear hK K
        refine wpAny_ready (rs := [4]) (by kernel_rfl) (by simp) (AllReady.cons rfl (fun K hK => ?_) (AllReady.nil))
        go_simp
        refine hK _ _ ?_
        clear hK K
        refine wpAny_ready (rs := [5]) (by kernel_rfl) (by simp) (AllReady.cons rfl (fun K hK => ?_) (AllReady.nil))
        go_simp
        (refine Calls.mono (H2.out _ hA) ?_; rintro e w4 ⟨v4, rfl, hI, hbX⟩; have hR := hI.reads (show (canL (rays ns).length).length ≤ 1152921504606846976 by have := HCl.out; omega); replace hX := hX.below hbX; replace x0 := (hbX.cell (p := ⟨w.heap.size, 0, none⟩) s0).trans x0; replace x1 := (hbX.cell (p := ⟨w.heap.size, 1, none⟩) s0).trans x1; replace hA := belowTo hA hbX; replace s0 := cell_lt x0; clear hbX hI)
        refine hK _ _ ?_
        clear hK K
        refine wpAny_ready (rs := [6]) (by kernel_rfl) (by simp) (AllReady.cons rfl (fun K hK => ?_) (AllReady.nil))
        go_simp
        (refine Calls.mono (H3.out _ _ hA hR) ?_; rintro e w5 ⟨C1, C2, rfl, hY, hbX⟩; replace hX := hX.below hbX; replace x0 := (hbX.cell (p := ⟨w.heap.size, 0, none⟩) s0).trans x0; replace x1 := (hbX.cell (p := ⟨w.heap.size, 1, none⟩) s0).trans x1; replace hA := belowTo hA hbX; replace s0 := cell_lt x0; clear hbX hR)
        refine hK _ _ ?_
        clear hK K
        refine wpAny_ready (rs := [7]) (by kernel_rfl) (by simp) (AllReady.cons rfl (fun K hK => ?_) (AllReady.nil))
        go_simp
        (refine Calls.mono (H4.out _ _ _ _ _) ?_; rintro e w6 ⟨P1, P2, rfl, hp1, hp2, hbX⟩; replace hX := hX.below hbX; replace hY := hY.below hbX; replace x0 := (hbX.cell (p := ⟨w.heap.size, 0, none⟩) s0).trans x0; replace x1 := (hbX.cell (p := ⟨w.heap.size, 1, none⟩) s0).trans x1; replace hA := belowTo hA hbX; replace s0 := cell_lt x0; clear hbX)
        refine hK _ _ ?_
        clear hK K
        refine wpAny_ready (rs := [8]) (by kernel_rfl) (by simp) (AllReady.cons rfl (fun K hK => ?_) (AllReady.nil))
        go_simp
        (refine Calls.mono (H5.out _ _ _ _ _ _ _ hA hp1 hp2 hX hY) ?_; rintro e w7 ⟨rfl, hbX⟩; replace hA := belowTo hA hbX; clear hbX hp1 hp2)
        refine hK _ _ ?_
        clear hK K
        refine wpAny_seq 9 rfl (by kernel_rfl) ?_
        simp only [List.drop_succ_cons, List.drop_zero]
      rotate_left 1
      focus
        go_simp
        refine hK _ _ ?_
        clear hK K
        refine wpAny_ready (rs := [2]) (by kernel_rfl) (by simp) (AllReady.cons rfl (fun K hK => ?_) (AllReady.nil))
        go_simp
        (refine Calls.mono (H1.out _ (by go_grown)) ?_; rintro e w3 ⟨B1, B2, rfl, hX, hbX⟩; replace hbX := undrew hbX; replace x0 := (hbX.cell (p := ⟨w.heap.size, 0, none⟩) s0).trans x0; replace x1 := (hbX.cell (p := ⟨w.heap.size, 1, none⟩) s0).trans x1; replace hA := belowTo hA hbX; replace s0 := cell_lt x0; clear hbX)
        refine hK _ _ ?_
        clear hK K
        refine wpAny_ready (rs := [5]) (by kernel_rfl) (by simp) (AllReady.cons rfl (fun K hK => ?_) (AllReady.nil))
        go_simp
        (refine Calls.mono (H2.out _ hA) ?_; rintro e w4 ⟨v4, rfl, hI, hbX⟩; have hR := hI.reads (show (canL (rays ns).length).length ≤ 1152921504606846976 by have := HCl.out; omega); replace hX := hX.below hbX; replace x0 := (hbX.cell (p := ⟨w.heap.size, 0, none⟩) s0).trans x0; replace x1 := (hbX.cell (p := ⟨w.heap.size, 1, none⟩) s0).trans x1; replace hA := belowTo hA hbX; replace s0 := cell_lt x0; clear hbX hI)
        refine hK _ _ ?_
        clear hK K
        refine wpAny_ready (rs := [6]) (by kernel_rfl) (by simp) (AllReady.cons rfl (fun K hK => ?_) (AllReady.nil))
        go_simp
        (refine Calls.mono (H3.out _ _ hA hR) ?_; rintro e w5 ⟨C1, C2, rfl, hY, hbX⟩; replace hX := hX.below hbX; replace x0 := (hbX.cell (p := ⟨w.heap.size, 0, none⟩) s0).trans x0; replace x1 := (hbX.cell (p := ⟨w.heap.size, 1, none⟩) s0).trans x1; replace hA := belowTo hA hbX; replace s0 := cell_lt x0; clear hbX hR)
        refine hK _ _ ?_
        clear hK K
        refine wpAny_ready (rs := [7]) (by kernel_rfl) (by simp) (AllReady.cons rfl (fun K hK => ?_) (AllReady.nil))
        go_simp
        (refine Calls.mono (H4.out _ _ _ _ _) ?_; rintro e w6 ⟨P1, P2, rfl, hp1, hp2, hbX⟩; replace hX := hX.below hbX; replace hY := hY.below hbX; replace x0 := (hbX.cell (p := ⟨w.heap.size, 0, none⟩) s0).trans x0; replace x1 := (hbX.cell (p := ⟨w.heap.size, 1, none⟩) s0).trans x1; replace hA := belowTo hA hbX; replace s0 := cell_lt x0; clear hbX)
        refine hK _ _ ?_
        clear hK K
        refine wpAny_ready (rs := [8]) (by kernel_rfl) (by simp) (AllReady.cons rfl (fun K hK => ?_) (AllReady.nil))
        go_simp
        (refine Calls.mono (H5.out _ _ _ _ _ _ _ hA hp1 hp2 hX hY) ?_; rintro e w7 ⟨rfl, hbX⟩; replace hA := belowTo hA hbX; clear hbX hp1 hp2)
        refine hK _ _ ?_
        clear hK K
        refine wpAny_seq 9 rfl (by kernel_rfl) ?_
        simp only [List.drop_succ_cons, List.drop_zero]
    rotate_left 2
    focus
      go_simp
      (refine Calls.mono (H1.out _ (by go_grown)) ?_; rintro e w3 ⟨B1, B2, rfl, hX, hbX⟩; replace hbX := undrew hbX; replace x0 := (hbX.cell (p := ⟨w.heap.size, 0, none⟩) s0).trans x0; replace x1 := (hbX.cell (p := ⟨w.heap.size, 1, none⟩) s0).trans x1; replace hA := belowTo hA hbX; replace s0 := cell_lt x0; clear hbX)
      refine hK _ _ ?_
      clear hK K
      refine wpAny_ready (rs := [0, 4]) (by kernel_rfl) (by simp) (AllReady.cons rfl (fun K hK => ?_) (AllReady.cons rfl (fun K hK => ?_) (AllReady.nil)))
      focus
        go_simp
        refine hK _ _ ?_
        clear hK K
        refine wpAny_ready (rs := [4]) (by kernel_rfl) (by simp) (AllReady.cons rfl (fun K hK => ?_) (AllReady.nil))
        go_simp
        refine hK _ _ ?_
        clear hK K
        refine wpAny_ready (rs := [5]) (by kernel_rfl) (by simp) (AllReady.cons rfl (fun K hK => ?_) (AllReady.nil))
        go_simp
        (refine Calls.mono (H2.out _ hA) ?_; rintro e w4 ⟨v4, rfl, hI, hbX⟩; have hR := hI.reads (show (canL (rays ns).length).length ≤ 1152921504606846976 by have := HCl.out; omega); replace hX := hX.below hbX; replace x0 := (hbX.cell (p := ⟨w.heap.size, 0, none⟩) s0).trans x0; replace x1 := (hbX.cell (p := ⟨w.heap.size, 1, none⟩) s0).trans x1; replace hA := belowTo hA hbX; replace s0 := cell_lt x0; clear hbX hI)
        refine hK _ _ ?_
        clear hK K
        refine wpAny_ready (rs := [6]) (by kernel_rfl) (by simp) (AllReady.cons rfl (fun K hK => ?_) (AllReady.nil))
        go_simp
        (refine Calls.mono (H3.out _ _ hA hR) ?_; rintro e w5 ⟨C1, C2, rfl, hY, hbX⟩; replace hX := hX.below hbX; replace x0 := (hbX.cell (p := ⟨w.heap.size, 0, none⟩) s0).trans x0; replace x1 := (hbX.cell (p := ⟨w.heap.size, 1, none⟩) s0).trans x1; replace hA := belowTo hA hbX; replace s0 := cell_lt x0; clear hbX hR)
        refine hK _ _ ?_
        clear hK K
        refine wpAny_ready (rs := [7]) (by kernel_rfl) (by simp) (AllReady.cons rfl (fun K hK => ?_) (AllReady.nil))
        go_simp
        (refine Calls.mono (H4.out _ _ _ _ _) ?_; rintro e w6 ⟨P1, P2, rfl, hp1, hp2, hbX⟩; replace hX := hX.below hbX; replace hY := hY.below hbX; replace x0 := (hbX.cell (p := ⟨w.heap.size, 0, none⟩) s0).trans x0; replace x1 := (hbX.cell (p := ⟨w.heap.size, 1, none⟩) s0).trans x1; replace hA := belowTo hA hbX; replace s0 := cell_lt x0; clear hbX)
        refine hK _ _ ?_
        clear hK K
        refine wpAny_ready (rs := [8]) (by kernel_rfl) (by simp) (AllReady.cons rfl (fun K hK => ?_) (AllReady.nil))
        go_simp
        (refine Calls.mono (H5.out _ _ _ _ _ _ _ hA hp1 hp2 hX hY) ?_; rintro e w7 ⟨rfl, hbX⟩; replace hA := belowTo hA hbX; clear hbX hp1 hp2)
        refine hK _ _ ?_
        clear hK K
        refine wpAny_seq 9 rfl (by kernel_rfl) ?_
        simp only [List.drop_succ_cons, List.drop_zero]
      rotate_left 1
      focus
        go_simp
        refine hK _ _ ?_
        clear hK K
        refine wpAny_ready (rs := [0, 5]) (by kernel_rfl) (by simp) (AllReady.cons rfl (fun K hK => ?_) (AllReady.cons rfl (fun K hK => ?_) (AllReady.nil)))
        focus
          go_simp
          refine hK _ _ ?_
          clear hK K
          refine wpAny_ready (rs := [5]) (by kernel_rfl) (by simp) (AllReady.cons rfl (fun K hK => ?_) (AllReady.nil))
          go_simp
          (refine Calls.mono (H2.out _ hA) ?_; rintro e w4 ⟨v4, rfl, hI, hbX⟩; have hR := hI.reads (show (canL (rays ns).length).length ≤ 1152921504606846976 by have := HCl.out; omega); replace hX := hX.below hbX; replace x0 := (hbX.cell (p := ⟨w.heap.size, 0, none⟩) s0).trans x0; replace x1 := (hbX.cell (p := ⟨w.heap.size, 1, none⟩) s0).trans x1; replace hA := belowTo hA hbX; replace s0 := cell_lt x0; clear hbX hI)
          refine hK _ _ ?_
          clear hK K
          refine wpAny_ready (rs := [6]) (by kernel_rfl) (by simp) (AllReady.cons rfl (fun K hK => ?_) (AllReady.nil))
          go_simp
          (refine Calls.mono (H3.out _ _ hA hR) ?_; rintro e w5 ⟨C1, C2, rfl, hY, hbX⟩; replace hX := hX.below hbX; replace x0 := (hbX.cell (p := ⟨w.heap.size, 0, none⟩) s0).trans x0; replace x1 := (hbX.cell (p := ⟨w.heap.size, 1, none⟩) s0).trans x1; replace hA := belowTo hA hbX; replace s0 := cell_lt x0; clear hbX hR)
          refine hK _ _ ?_
          clear hK K
          refine wpAny_ready (rs := [7]) (by kernel_rfl) (by simp) (AllReady.cons rfl (fun K hK => ?_) (AllReady.nil))
          go_simp
          (refine Calls.mono (H4.out _ _ _ _ _) ?_; rintro e w6 ⟨P1, P2, rfl, hp1, hp2, hbX⟩; replace hX := hX.below hbX; replace hY := hY.below hbX; replace x0 := (hbX.cell (p := ⟨w.heap.size, 0, none⟩) s0).trans x0; replace x1 := (hbX.cell (p := ⟨w.heap.size, 1, none⟩) s0).trans x1; replace hA := belowTo hA hbX; replace s0 := cell_lt x0; clear hbX)
          refine hK _ _ ?_
          clear hK K
          refine wpAny_ready (rs := [8]) (by kernel_rfl) (by simp) (AllReady.cons rfl (fun K hK => ?_) (AllReady.nil))
          go_simp
          (refine Calls.mono (H5.out _ _ _ _ _ _ _ hA hp1 hp2 hX hY) ?_; rintro e w7 ⟨rfl, hbX⟩; replace hA := belowTo hA hbX; clear hbX hp1 hp2)
          refine hK _ _ ?_
          clear hK K
          refine wpAny_seq 9 rfl (by kernel_rfl) ?_
          simp only [List.drop_succ_cons, List.drop_zero]
        rotate_left 1
        focus
          go_simp
          (refine Calls.mono (H2.out _ hA) ?_; rintro e w4 ⟨v4, rfl, hI, hbX⟩; have hR := hI.reads (show (canL (rays ns).length).length ≤ 1152921504606846976 by have := HCl.out; omega); replace hX := hX.below hbX; replace x0 := (hbX.cell (p := ⟨w.heap.size, 0, none⟩) s0).trans x0; replace x1 := (hbX.cell (p := ⟨w.heap.size, 1, none⟩) s0).trans x1; replace hA := belowTo hA hbX; replace s0 := cell_lt x0; clear hbX hI)
          refine hK _ _ ?_
          clear hK K
          refine wpAny_ready (rs := [0, 6]) (by kernel_rfl) (by simp) (AllReady.cons rfl (fun K hK => ?_) (AllReady.cons rfl (fun K hK => ?_) (AllReady.nil)))
          focus
            go_simp
            refine hK _ _ ?_
            clear hK K
            refine wpAny_ready (rs := [6]) (by kernel_rfl) (by simp) (AllReady.cons rfl (fun K hK => ?_) (AllReady.nil))
            go_simp
            (refine Calls.mono (H3.out _ _ hA hR) ?_; rintro e w5 ⟨C1, C2, rfl, hY, hbX⟩; replace hX := hX.below hbX; replace x0 := (hbX.cell (p := ⟨w.heap.size, 0, none⟩) s0).trans x0; replace x1 := (hbX.cell (p := ⟨w.heap.size, 1, none⟩) s0).trans x1; replace hA := belowTo hA hbX; replace s0 := cell_lt x0; clear hbX hR)
            refine hK _ _ ?_
            clear hK K
            refine wpAny_ready (rs := [7]) (by kernel_rfl) (by simp) (AllReady.cons rfl (fun K hK => ?_) (AllReady.nil))
            go_simp
            (refine Calls.mono (H4.out _ _ _ _ _) ?_; rintro e w6 ⟨P1, P2, rfl, hp1, hp2, hbX⟩; replace hX := hX.below hbX; replace hY := hY.below hbX; replace x0 := (hbX.cell (p := ⟨w.heap.size, 0, none⟩) s0).trans x0; replace x1 := (hbX.cell (p := ⟨w.heap.size, 1, none⟩) s0).trans x1; replace hA := belowTo hA hbX; replace s0 := cell_lt x0; clear hbX)
            refine hK _ _ ?_
            clear hK K
            refine wpAny_ready (rs := [8]) (by kernel_rfl) (by simp) (AllReady.cons rfl (fun K hK => ?_) (AllReady.nil))
            go_simp
            (refine Calls.mono (H5.out _ _ _ _ _ _ _ hA hp1 hp2 hX hY) ?_; rintro e w7 ⟨rfl, hbX⟩; replace hA := belowTo hA hbX; clear hbX hp1 hp2)
            refine hK _ _ ?_
            clear hK K
            refine wpAny_seq 9 rfl (by kernel_rfl) ?_
            simp only [List.drop_succ_cons, List.drop_zero]
          rotate_left 1
          focus
            go_simp
            (refine Calls.mono (H3.out _ _ hA hR) ?_; rintro e w5 ⟨C1, C2, rfl, hY, hbX⟩; replace hX := hX.below hbX; replace x0 := (hbX.cell (p := ⟨w.heap.size, 0, none⟩) s0).trans x0; replace x1 := (hbX.cell (p := ⟨w.heap.size, 1, none⟩) s0).trans x1; replace hA := belowTo hA hbX; replace s0 := cell_lt x0; clear hbX hR)
            refine hK _ _ ?_
            clear hK K
            refine wpAny_ready (rs := [0, 7]) (by kernel_rfl) (by simp) (AllReady.cons rfl (fun K hK => ?_) (AllReady.cons rfl (fun K hK => ?_) (AllReady.nil)))
            focus
              go_simp
              refine hK _ _ ?_
              clear hK K
              refine wpAny_ready (rs := [7]) (by kernel_rfl) (by simp) (AllReady.cons rfl (fun K hK => ?_) (AllReady.nil))
              go_simp
              (refine Calls.mono (H4.out _ _ _ _ _) ?_; rintro e w6 ⟨P1, P2, rfl, hp1, hp2, hbX⟩; replace hX := hX.below hbX; replace hY := hY.below hbX; replace x0 := (hbX.cell (p := ⟨w.heap.size, 0, none⟩) s0).trans x0; replace x1 := (hbX.cell (p := ⟨w.heap.size, 1, none⟩) s0).trans x1; replace hA := belowTo hA hbX; replace s0 := cell_lt x0; clear hbX)
              refine hK _ _ ?_
              clear hK K
              refine wpAny_ready (rs := [8]) (by kernel_rfl) (by simp) (AllReady.cons rfl (fun K hK => ?_) (AllReady.nil))
              go_simp
              (refine Calls.mono (H5.out _ _ _ _ _ _ _ hA hp1 hp2 hX hY) ?_; rintro e w7 ⟨rfl, hbX⟩; replace hA := belowTo hA hbX; clear hbX hp1 hp2)
              refine hK _ _ ?_
              clear hK K
              refine wpAny_seq 9 rfl (by kernel_rfl) ?_
              simp only [List.drop_succ_cons, List.drop_zero]
            rotate_left 1
            focus
              go_simp
              (refine Calls.mono (H4.out _ _ _ _ _) ?_; rintro e w6 ⟨P1, P2, rfl, hp1, hp2, hbX⟩; replace hX := hX.below hbX; replace hY := hY.below hbX; replace x0 := (hbX.cell (p := ⟨w.heap.size, 0, none⟩) s0).trans x0; replace x1 := (hbX.cell (p := ⟨w.heap.size, 1, none⟩) s0).trans x1; replace hA := belowTo hA hbX; replace s0 := cell_lt x0; clear hbX)
              refine hK _ _ ?_
              clear hK K
              refine wpAny_ready (rs := [0]) (by kernel_rfl) (by simp) (AllReady.cons rfl (fun K hK => ?_) (AllReady.nil))
              go_simp
              refine hK _ _ ?_
              clear hK K
              refine wpAny_ready (rs := [8]) (by kernel_rfl) (by simp) (AllReady.cons rfl (fun K hK => ?_) (AllReady.nil))
              go_simp
              (refine Calls.mono (H5.out _ _ _ _ _ _ _ hA hp1 hp2 hX hY) ?_; rintro e w7 ⟨rfl, hbX⟩; replace hA := belowTo hA hbX; clear hbX hp1 hp2)
              refine hK _ _ ?_
              clear hK K
              refine wpAny_seq 9 rfl (by kernel_rfl) ?_
              simp only [List.drop_succ_cons, List.drop_zero]
    rotate_left 5
    focus
      go_simp
      refine hK _ _ ?_
      clear hK K
      refine wpAny_ready (rs := [0, 2]) (by kernel_rfl) (by simp) (AllReady.cons rfl (fun K hK => ?_) (AllReady.cons rfl (fun K hK => ?_) (AllReady.nil)))
      focus
        go_simp
        refine hK _ _ ?_
        clear hK K
        refine wpAny_ready (rs := [2]) (by kernel_rfl) (by simp) (AllReady.cons rfl (fun K hK => ?_) (AllReady.nil))
        go_simp
        (refine Calls.mono (H1.out _ (by go_grown)) ?_; rintro e w3 ⟨B1, B2, rfl, hX, hbX⟩; replace hbX := undrew hbX; replace x0 := (hbX.cell (p := ⟨w.heap.size, 0, none⟩) s0).trans x0; replace x1 := (hbX.cell (p := ⟨w.heap.size, 1, none⟩) s0).trans x1; replace hA := belowTo hA hbX; replace s0 := cell_lt x0; clear hbX)
        refine hK _ _ ?_
        clear hK K
        refine wpAny_ready (rs := [5]) (by kernel_rfl) (by simp) (AllReady.cons rfl (fun K hK => ?_) (AllReady.nil))
        go_simp
        (refine Calls.mono (H2.out _ hA) ?_; rintro e w4 ⟨v4, rfl, hI, hbX⟩; have hR := hI.reads (show (canL (rays ns).length).length ≤ 1152921504606846976 by have := HCl.out; omega); replace hX := hX.below hbX; replace x0 := (hbX.cell (p := ⟨w.heap.size, 0, none⟩) s0).trans x0; replace x1 := (hbX.cell (p := ⟨w.heap.size, 1, none⟩) s0).trans x1; replace hA := belowTo hA hbX; replace s0 := cell_lt x0; clear hbX hI)
        refine hK _ _ ?_
        clear hK K
        refine wpAny_ready (rs := [6]) (by kernel_rfl) (by simp) (AllReady.cons rfl (fun K hK => ?_) (AllReady.nil))
        go_simp
        (refine Calls.mono (H3.out _ _ hA hR) ?_; rintro e w5 ⟨C1, C2, rfl, hY, hbX⟩; replace hX := hX.below hbX; replace x0 := (hbX.cell (p := ⟨w.heap.size, 0, none⟩) s0).trans x0; replace x1 := (hbX.cell (p := ⟨w.heap.size, 1, none⟩) s0).trans x1; replace hA := belowTo hA hbX; replace s0 := cell_lt x0; clear hbX hR)
        refine hK _ _ ?_
        clear hK K
        refine wpAny_ready (rs := [7]) (by kernel_rfl) (by simp) (AllReady.cons rfl (fun K hK => ?_) (AllReady.nil))
        go_simp
        (refine Calls.mono (H4.out _ _ _ _ _) ?_; rintro e w6 ⟨P1, P2, rfl, hp1, hp2, hbX⟩; replace hX := hX.below hbX; replace hY := hY.below hbX; replace x0 := (hbX.cell (p := ⟨w.heap.size, 0, none⟩) s0).trans x0; replace x1 := (hbX.cell (p := ⟨w.heap.size, 1, none⟩) s0).trans x1; replace hA := belowTo hA hbX; replace s0 := cell_lt x0; clear hbX)
        refine hK _ _ ?_
        clear hK K
        refine wpAny_ready (rs := [8]) (by kernel_rfl) (by simp) (AllReady.cons rfl (fun K hK => ?_) (AllReady.nil))
        go_simp
        (refine Calls.mono (H5.out _ _ _ _ _ _ _ hA hp1 hp2 hX hY) ?_; rintro e w7 ⟨rfl, hbX⟩; replace hA := belowTo hA hbX; clear hbX hp1 hp2)
        refine hK _ _ ?_
        clear hK K
        refine wpAny_seq 9 rfl (by kernel_rfl) ?_
        simp only [List.drop_succ_cons, List.drop_zero]
      rotate_left 1
      focus
        go_simp
        (refine Calls.mono (H1.out _ (by go_grown)) ?_; rintro e w3 ⟨B1, B2, rfl, hX, hbX⟩; replace hbX := undrew hbX; replace x0 := (hbX.cell (p := ⟨w.heap.size, 0, none⟩) s0).trans x0; replace x1 := (hbX.cell (p := ⟨w.heap.size, 1, none⟩) s0).trans x1; replace hA := belowTo hA hbX; replace s0 := cell_lt x0; clear hbX)
        refine hK _ _ ?_
        clear hK K
        refine wpAny_ready (rs := [0, 5]) (by kernel_rfl) (by simp) (AllReady.cons rfl (fun K hK => ?_) (AllReady.cons rfl (fun K hK => ?_) (AllReady.nil)))
        focus
          go_simp
          refine hK _ _ ?_
          clear hK K
          refine wpAny_ready (rs := [5]) (by kernel_rfl) (by simp) (AllReady.cons rfl (fun K hK => ?_) (AllReady.nil))
          go_simp
          (refine Calls.mono (H2.out _ hA) ?_; rintro e w4 ⟨v4, rfl, hI, hbX⟩; have hR := hI.reads (show (canL (rays ns).length).length ≤ 1152921504606846976 by have := HCl.out; omega); replace hX := hX.below hbX; replace x0 := (hbX.cell (p := ⟨w.heap.size, 0, none⟩) s0).trans x0; replace x1 := (hbX.cell (p := ⟨w.heap.size, 1, none⟩) s0).trans x1; replace hA := belowTo hA hbX; replace s0 := cell_lt x0; clear hbX hI)
          refine hK _ _ ?_
          clear hK K
          refine wpAny_ready (rs := [6]) (by kernel_rfl) (by simp) (AllReady.cons rfl (fun K hK => ?_) (AllReady.nil))
          go_simp
          (refine Calls.mono (H3.out _ _ hA hR) ?_; rintro e w5 ⟨C1, C2, rfl, hY, hbX⟩; replace hX := hX.below hbX; replace x0 := (hbX.cell (p := ⟨w.heap.size, 0, none⟩) s0).trans x0; replace x1 := (hbX.cell (p := ⟨w.heap.size, 1, none⟩) s0).trans x1; replace hA := belowTo hA hbX; replace s0 := cell_lt x0; clear hbX hR)
          refine hK _ _ ?_
          clear hK K
          refine wpAny_ready (rs := [7]) (by kernel_rfl) (by simp) (AllReady.cons rfl (fun K hK => ?_) (AllReady.nil))
          go_simp
          (refine Calls.mono (H4.out _ _ _ _ _) ?_; rintro e w6 ⟨P1, P2, rfl, hp1, hp2, hbX⟩; replace hX := hX.below hbX; replace hY := hY.below hbX; replace x0 := (hbX.cell (p := ⟨w.heap.size, 0, none⟩) s0).trans x0; replace x1 := (hbX.cell (p := ⟨w.heap.size, 1, none⟩) s0).trans x1; replace hA := belowTo hA hbX; replace s0 := cell_lt x0; clear hbX)
          refine hK _ _ ?_
          clear hK K
          refine wpAny_ready (rs := [8]) (by kernel_rfl) (by simp) (AllReady.cons rfl (fun K hK => ?_) (AllReady.nil))
          go_simp
          (refine Calls.mono (H5.out _ _ _ _ _ _ _ hA hp1 hp2 hX hY) ?_; rintro e w7 ⟨rfl, hbX⟩; replace hA := belowTo hA hbX; clear hbX hp1 hp2)
          refine hK _ _ ?_
          clear hK K
          refine wpAny_seq 9 rfl (by kernel_rfl) ?_
          simp only [List.drop_succ_cons, List.drop_zero]
        rotate_left 1
        focus
          go_simp
          (refine Calls.mono (H2.out _ hA) ?_; rintro e w4 ⟨v4, rfl, hI, hbX⟩; have hR := hI.reads (show (canL (rays ns).length).length ≤ 1152921504606846976 by have := HCl.out; omega); replace hX := hX.below hbX; replace x0 := (hbX.cell (p := ⟨w.heap.size, 0, none⟩) s0).trans x0; replace x1 := (hbX.cell (p := ⟨w.heap.size, 1, none⟩) s0).trans x1; replace hA := belowTo hA hbX; replace s0 := cell_lt x0; clear hbX hI)
          refine hK _ _ ?_
          clear hK K
          refine wpAny_ready (rs := [0, 6]) (by kernel_rfl) (by simp) (AllReady.cons rfl (fun K hK => ?_) (AllReady.cons rfl (fun K hK => ?_) (AllReady.nil)))
          focus
            go_simp
            refine hK _ _ ?_
            clear hK K
            refine wpAny_ready (rs := [6]) (by kernel_rfl) (by simp) (AllReady.cons rfl (fun K hK => ?_) (AllReady.nil))
            go_simp
            (refine Calls.mono (H3.out _ _ hA hR) ?_; rintro e w5 ⟨C1, C2, rfl, hY, hbX⟩; replace hX := hX.below hbX; replace x0 := (hbX.cell (p := ⟨w.heap.size, 0, none⟩) s0).trans x0; replace x1 := (hbX.cell (p := ⟨w.heap.size, 1, none⟩) s0).trans x1; replace hA := belowTo hA hbX; replace s0 := cell_lt x0; clear hbX hR)
            refine hK _ _ ?_
            clear hK K
            refine wpAny_ready (rs := [7]) (by kernel_rfl) (by simp) (AllReady.cons rfl (fun K hK => ?_) (AllReady.nil))
            go_simp
            (refine Calls.mono (H4.out _ _ _ _ _) ?_; rintro e w6 ⟨P1, P2, rfl, hp1, hp2, hbX⟩; replace hX := hX.below hbX; replace hY := hY.below hbX; replace x0 := (hbX.cell (p := ⟨w.heap.size, 0, none⟩) s0).trans x0; replace x1 := (hbX.cell (p := ⟨w.heap.size, 1, none⟩) s0).trans x1; replace hA := belowTo hA hbX; replace s0 := cell_lt x0; clear hbX)
            refine hK _ _ ?_
            clear hK K
            refine wpAny_ready (rs := [8]) (by kernel_rfl) (by simp) (AllReady.cons rfl (fun K hK => ?_) (AllReady.nil))
            go_simp
            (refine Calls.mono (H5.out _ _ _ _ _ _ _ hA hp1 hp2 hX hY) ?_; rintro e w7 ⟨rfl, hbX⟩; replace hA := belowTo hA hbX; clear hbX hp1 hp2)
            refine hK _ _ ?_
            clear hK K
            refine wpAny_seq 9 rfl (by kernel_rfl) ?_
            simp only [List.drop_succ_cons, List.drop_zero]
          rotate_left 1
          focus
            go_simp
            (refine Calls.mono (H3.out _ _ hA hR) ?_; rintro e w5 ⟨C1, C2, rfl, hY, hbX⟩; replace hX := hX.below hbX; replace x0 := (hbX.cell (p := ⟨w.heap.size, 0, none⟩) s0).trans x0; replace x1 := (hbX.cell (p := ⟨w.heap.size, 1, none⟩) s0).trans x1; replace hA := belowTo hA hbX; replace s0 := cell_lt x0; clear hbX hR)
            refine hK _ _ ?_
            clear hK K
            refine wpAny_ready (rs := [0, 7]) (by kernel_rfl) (by simp) (AllReady.cons rfl (fun K hK => ?_) (AllReady.cons rfl (fun K hK => ?_) (AllReady.nil)))
            focus
              go_simp
              refine hK _ _ ?_
              clear hK K
              refine wpAny_ready (rs := [7]) (by kernel_rfl) (by simp) (AllReady.cons rfl (fun K hK => ?_) (AllReady.nil))
              go_simp
              (refine Calls.mono (H4.out _ _ _ _ _) ?_; rintro e w6 ⟨P1, P2, rfl, hp1, hp2, hbX⟩; replace hX := hX.below hbX; replace hY := hY.below hbX; replace x0 := (hbX.cell (p := ⟨w.heap.size, 0, none⟩) s0).trans x0; replace x1 := (hbX.cell (p := ⟨w.heap.size, 1, none⟩) s0).trans x1; replace hA := belowTo hA hbX; replace s0 := cell_lt x0; clear hbX)
              refine hK _ _ ?_
              clear hK K
              refine wpAny_ready (rs := [8]) (by kernel_rfl) (by simp) (AllReady.cons rfl (fun K hK => ?_) (AllReady.nil))
              go_simp
              (refine Calls.mono (H5.out _ _ _ _ _ _ _ hA hp1 hp2 hX hY) ?_; rintro e w7 ⟨rfl, hbX⟩; replace hA := belowTo hA hbX; clear hbX hp1 hp2)
              refine hK _ _ ?_
              clear hK K
              refine wpAny_seq 9 rfl (by kernel_rfl) ?_
              simp only [List.drop_succ_cons, List.drop_zero]
            rotate_left 1
            focus
              go_simp
              (refine Calls.mono (H4.out _ _ _ _ _) ?_; rintro e w6 ⟨P1, P2, rfl, hp1, hp2, hbX⟩; replace hX := hX.below hbX; replace hY := hY.below hbX; replace x0 := (hbX.cell (p := ⟨w.heap.size, 0, none⟩) s0).trans x0; replace x1 := (hbX.cell (p := ⟨w.heap.size, 1, none⟩) s0).trans x1; replace hA := belowTo hA hbX; replace s0 := cell_lt x0; clear hbX)
              refine hK _ _ ?_
              clear hK K
              refine wpAny_ready (rs := [0]) (by kernel_rfl) (by simp) (AllReady.cons rfl (fun K hK => ?_) (AllReady.nil))
              go_simp
              refine hK _ _ ?_
              clear hK K
              refine wpAny_ready (rs := [8]) (by kernel_rfl) (by simp) (AllReady.cons rfl (fun K hK => ?_) (AllReady.nil))
              go_simp
              (refine Calls.mono (H5.out _ _ _ _ _ _ _ hA hp1 hp2 hX hY) ?_; rintro e w7 ⟨rfl, hbX⟩; replace hA := belowTo hA hbX; clear hbX hp1 hp2)
              refine hK _ _ ?_
              clear hK K
              refine wpAny_seq 9 rfl (by kernel_rfl) ?_
              simp only [List.drop_succ_cons, List.drop_zero]
  rotate_left 12
  focus
    go_simp
    refine hK _ _ ?_
    clear hK K
    refine wpAny_ready (rs := [0, 1]) (by kernel_rfl) (by simp) (AllReady.cons rfl (fun K hK => ?_) (AllReady.cons rfl (fun K hK => ?_) (AllReady.nil)))
    focus
      go_simp
      refine hK _ _ ?_
      clear hK K
      refine wpAny_ready (rs := [1]) (by kernel_rfl) (by simp) (AllReady.cons rfl (fun K hK => ?_) (AllReady.nil))
      go_simp
      refine hK _ _ ?_
      clear hK K
      refine wpAny_ready (rs := [2]) (by kernel_rfl) (by simp) (AllReady.cons rfl (fun K hK => ?_) (AllReady.nil))
      go_simp
      (refine Calls.mono (H1.out _ (by go_grown)) ?_; rintro e w3 ⟨B1, B2, rfl, hX, hbX⟩; replace hbX := undrew hbX; replace x0 := (hbX.cell (p := ⟨w.heap.size, 0, none⟩) s0).trans x0; replace x1 := (hbX.cell (p := ⟨w.heap.size, 1, none⟩) s0).trans x1; replace hA := belowTo hA hbX; replace s0 := cell_lt x0; clear hbX)
      refine hK _ _ ?_
      clear hK K
      refine wpAny_ready (rs := [5]) (by kernel_rfl) (by simp) (AllReady.cons rfl (fun K hK => ?_) (AllReady.nil))
      go_simp
      (refine Calls.mono (H2.out _ hA) ?_; rintro e w4 ⟨v4, rfl, hI, hbX⟩; have hR := hI.reads (show (canL (rays ns).length).length ≤ 1152921504606846976 by have := HCl.out; omega); replace hX := hX.below hbX; replace x0 := (hbX.cell (p := ⟨w.heap.size, 0, none⟩) s0).trans x0; replace x1 := (hbX.cell (p := ⟨w.heap.size, 1, none⟩) s0).trans x1; replace hA := belowTo hA hbX; replace s0 := cell_lt x0; clear hbX hI)
      refine hK _ _ ?_
      clear hK K
      refine wpAny_ready (rs := [6]) (by kernel_rfl) (by simp) (AllReady.cons rfl (fun K hK => ?_) (AllReady.nil))
      go_simp
      (refine Calls.mono (H3.out _ _ hA hR) ?_; rintro e w5 ⟨C1, C2, rfl, hY, hbX⟩; replace hX := hX.below hbX; replace x0 := (hbX.cell (p := ⟨w.heap.size, 0, none⟩) s0).trans x0; replace x1 := (hbX.cell (p := ⟨w.heap.size, 1, none⟩) s0).trans x1; replace hA := belowTo hA hbX; replace s0 := cell_lt x0; clear hbX hR)
      refine hK _ _ ?_
      clear hK K
      refine wpAny_ready (rs := [7]) (by kernel_rfl) (by simp) (AllReady.cons rfl (fun K hK => ?_) (AllReady.nil))
      go_simp
      (refine Calls.mono (H4.out _ _ _ _ _) ?_; rintro e w6 ⟨P1, P2, rfl, hp1, hp2, hbX⟩; replace hX := hX.below hbX; replace hY := hY.below hbX; replace x0 := (hbX.cell (p := ⟨w.heap.size, 0, none⟩) s0).trans x0; replace x1 := (hbX.cell (p := ⟨w.heap.size, 1, none⟩) s0).trans x1; replace hA := belowTo hA hbX; replace s0 := cell_lt x0; clear hbX)
      refine hK _ _ ?_
      clear hK K
      refine wpAny_ready (rs := [8]) (by kernel_rfl) (by simp) (AllReady.cons rfl (fun K hK => ?_) (AllReady.nil))
      go_simp
      (refine Calls.mono (H5.out _ _ _ _ _ _ _ hA hp1 hp2 hX hY) ?_; rintro e w7 ⟨rfl, hbX⟩; replace hA := belowTo hA hbX; clear hbX hp1 hp2)
      refine hK _ _ ?_
      clear hK K
      refine wpAny_seq 9 rfl (by kernel_rfl) ?_
      simp only [List.drop_succ_cons, List.drop_zero]
    rotate_left 1
    focus
      go_simp
      refine hK _ _ ?_
      clear hK K
      refine wpAny_ready (rs := [0, 2]) (by kernel_rfl) (by simp) (AllReady.cons rfl (fun K hK => ?_) (AllReady.cons rfl (fun K hK => ?_) (AllReady.nil)))
      focus
        go_simp
        refine hK _ _ ?_
        clear hK K
        refine wpAny_ready (rs := [2]) (by kernel_rfl) (by simp) (AllReady.cons rfl (fun K hK => ?_) (AllReady.nil))
        go_simp
        (refine Calls.mono (H1.out _ (by go_grown)) ?_; rintro e w3 ⟨B1, B2, rfl, hX, hbX⟩; replace hbX := undrew hbX; replace x0 := (hbX.cell (p := ⟨w.heap.size, 0, none⟩) s0).trans x0; replace x1 := (hbX.cell (p := ⟨w.heap.size, 1, none⟩) s0).trans x1; replace hA := belowTo hA hbX; replace s0 := cell_lt x0; clear hbX)
        refine hK _ _ ?_
        clear hK K
        refine wpAny_ready (rs := [5]) (by kernel_rfl) (by simp) (AllReady.cons rfl (fun K hK => ?_) (AllReady.nil))
        go_simp
        (refine Calls.mono (H2.out _ hA) ?_; rintro e w4 ⟨v4, rfl, hI, hbX⟩; have hR := hI.reads (show (canL (rays ns).length).length ≤ 1152921504606846976 by have := HCl.out; omega); replace hX := hX.below hbX; replace x0 := (hbX.cell (p := ⟨w.heap.size, 0, none⟩) s0).trans x0; replace x1 := (hbX.cell (p := ⟨w.heap.size, 1, none⟩) s0).trans x1; replace hA := belowTo hA hbX; replace s0 := cell_lt x0; clear hbX hI)
        refine hK _ _ ?_
        clear hK K
        refine wpAny_ready (rs := [6]) (by kernel_rfl) (by simp) (AllReady.cons rfl (fun K hK => ?_) (AllReady.nil))
        go_simp
        (refine Calls.mono (H3.out _ _ hA hR) ?_; rintro e w5 ⟨C1, C2, rfl, hY, hbX⟩; replace hX := hX.below hbX; replace x0 := (hbX.cell (p := ⟨w.heap.size, 0, none⟩) s0).trans x0; replace x1 := (hbX.cell (p := ⟨w.heap.size, 1, none⟩) s0).trans x1; replace hA := belowTo hA hbX; replace s0 := cell_lt x0; clear hbX hR)
        refine hK _ _ ?_
        clear hK K
        refine wpAny_ready (rs := [7]) (by kernel_rfl) (by simp) (AllReady.cons rfl (fun K hK => ?_) (AllReady.nil))
        go_simp
        (refine Calls.mono (H4.out _ _ _ _ _) ?_; rintro e w6 ⟨P1, P2, rfl, hp1, hp2, hbX⟩; replace hX := hX.below hbX; replace hY := hY.below hbX; replace x0 := (hbX.cell (p := ⟨w.heap.size, 0, none⟩) s0).trans x0; replace x1 := (hbX.cell (p := ⟨w.heap.size, 1, none⟩) s0).trans x1; replace hA := belowTo hA hbX; replace s0 := cell_lt x0; clear hbX)
        refine hK _ _ ?_
        clear hK K
        refine wpAny_ready (rs := [8]) (by kernel_rfl) (by simp) (AllReady.cons rfl (fun K hK => ?_) (AllReady.nil))
        go_simp
        (refine Calls.mono (H5.out _ _ _ _ _ _ _ hA hp1 hp2 hX hY) ?_; rintro e w7 ⟨rfl, hbX⟩; replace hA := belowTo hA hbX; clear hbX hp1 hp2)
        refine hK _ _ ?_
        clear hK K
        refine wpAny_seq 9 rfl (by kernel_rfl) ?_
        simp only [List.drop_succ_cons, List.drop_zero]
      rotate_left 1
      focus
        go_simp
        (refine Calls.mono (H1.out _ (by go_grown)) ?_; rintro e w3 ⟨B1, B2, rfl, hX, hbX⟩; replace hbX := undrew hbX; replace x0 := (hbX.cell (p := ⟨w.heap.size, 0, none⟩) s0).trans x0; replace x1 := (hbX.cell (p := ⟨w.heap.size, 1, none⟩) s0).trans x1; replace hA := belowTo hA hbX; replace s0 := cell_lt x0; clear hbX)
        refine hK _ _ ?_
        clear hK K
        refine wpAny_ready (rs := [0, 5]) (by kernel_rfl) (by simp) (AllReady.cons rfl (fun K hK => ?_) (AllReady.cons rfl (fun K hK => ?_) (AllReady.nil)))
        focus
          go_simp
          refine hK _ _ ?_
          clear hK K
          refine wpAny_ready (rs := [5]) (by kernel_rfl) (by simp) (AllReady.cons rfl (fun K hK => ?_) (AllReady.nil))
          go_simp
          (refine Calls.mono (H2.out _ hA) ?_; rintro e w4 ⟨v4, rfl, hI, hbX⟩; have hR := hI.reads (show (canL (rays ns).length).length ≤ 1152921504606846976 by have := HCl.out; omega); replace hX := hX.below hbX; replace x0 := (hbX.cell (p := ⟨w.heap.size, 0, none⟩) s0).trans x0; replace x1 := (hbX.cell (p := ⟨w.heap.size, 1, none⟩) s0).trans x1; replace hA := belowTo hA hbX; replace s0 := cell_lt x0; clear hbX hI)
          refine hK _ _ ?_
          clear hK K
          refine wpAny_ready (rs := [6]) (by kernel_rfl) (by simp) (AllReady.cons rfl (fun K hK => ?_) (AllReady.nil))
          go_simp
          (refine Calls.mono (H3.out _ _ hA hR) ?_; rintro e w5 ⟨C1, C2, rfl, hY, hbX⟩; replace hX := hX.below hbX; replace x0 := (hbX.cell (p := ⟨w.heap.size, 0, none⟩) s0).trans x0; replace x1 := (hbX.cell (p := ⟨w.heap.size, 1, none⟩) s0).trans x1; replace hA := belowTo hA hbX; replace s0 := cell_lt x0; clear hbX hR)
          refine hK _ _ ?_
          clear hK K
          refine wpAny_ready (rs := [7]) (by kernel_rfl) (by simp) (AllReady.cons rfl (fun K hK => ?_) (AllReady.nil))
          go_simp
          (refine Calls.mono (H4.out _ _ _ _ _) ?_; rintro e w6 ⟨P1, P2, rfl, hp1, hp2, hbX⟩; replace hX := hX.below hbX; replace hY := hY.below hbX; replace x0 := (hbX.cell (p := ⟨w.heap.size, 0, none⟩) s0).trans x0; replace x1 := (hbX.cell (p := ⟨w.heap.size, 1, none⟩) s0).trans x1; replace hA := belowTo hA hbX; replace s0 := cell_lt x0; clear hbX)
          refine hK _ _ ?_
          clear hK K
          refine wpAny_ready (rs := [8]) (by kernel_rfl) (by simp) (AllReady.cons rfl (fun K hK => ?_) (AllReady.nil))
          go_simp
          (refine Calls.mono (H5.out _ _ _ _ _ _ _ hA hp1 hp2 hX hY) ?_; rintro e w7 ⟨rfl, hbX⟩; replace hA := belowTo hA hbX; clear hbX hp1 hp2)
          refine hK _ _ ?_
          clear hK K
          refine wpAny_seq 9 rfl (by kernel_rfl) ?_
          simp only [List.drop_succ_cons, List.drop_zero]
        rotate_left 1
        focus
          go_simp
          (refine Calls.mono (H2.out _ hA) ?_; rintro e w4 ⟨v4, rfl, hI, hbX⟩; have hR := hI.reads (show (canL (rays ns).length).length ≤ 1152921504606846976 by have := HCl.out; omega); replace hX := hX.below hbX; replace x0 := (hbX.cell (p := ⟨w.heap.size, 0, none⟩) s0).trans x0; replace x1 := (hbX.cell (p := ⟨w.heap.size, 1, none⟩) s0).trans x1; replace hA := belowTo hA hbX; replace s0 := cell_lt x0; clear hbX hI)
          refine hK _ _ ?_
          clear hK K
          refine wpAny_ready (rs := [0, 6]) (by kernel_rfl) (by simp) (AllReady.cons rfl (fun K hK => ?_) (AllReady.cons rfl (fun K hK => ?_) (AllReady.nil)))
          focus
            go_simp
            refine hK _ _ ?_
            clear hK K
            refine wpAny_ready (rs := [6]) (by kernel_rfl) (by simp) (AllReady.cons rfl (fun K hK => ?_) (AllReady.nil))
            go_simp
            (refine Calls.mono (H3.out _ _ hA hR) ?_; rintro e w5 ⟨C1, C2, rfl, hY, hbX⟩; replace hX := hX.below hbX; replace x0 := (hbX.cell (p := ⟨w.heap.size, 0, none⟩) s0).trans x0; replace x1 := (hbX.cell (p := ⟨w.heap.size, 1, none⟩) s0).trans x1; replace hA := belowTo hA hbX; replace s0 := cell_lt x0; clear hbX hR)
            refine hK _ _ ?_
            clear hK K
            refine wpAny_ready (rs := [7]) (by kernel_rfl) (by simp) (AllReady.cons rfl (fun K hK => ?_) (AllReady.nil))
            go_simp
            (refine Calls.mono (H4.out _ _ _ _ _) ?_; rintro e w6 ⟨P1, P2, rfl, hp1, hp2, hbX⟩; replace hX := hX.below hbX; replace hY := hY.below hbX; replace x0 := (hbX.cell (p := ⟨w.heap.size, 0, none⟩) s0).trans x0; replace x1 := (hbX.cell (p := ⟨w.heap.size, 1, none⟩) s0).trans x1; replace hA := belowTo hA hbX; replace s0 := cell_lt x0; clear hbX)
            refine hK _ _ ?_
            clear hK K
            refine wpAny_ready (rs := [8]) (by kernel_rfl) (by simp) (AllReady.cons rfl (fun K hK => ?_) (AllReady.nil))
            go_simp
            (refine Calls.mono (H5.out _ _ _ _ _ _ _ hA hp1 hp2 hX hY) ?_; rintro e w7 ⟨rfl, hbX⟩; replace hA := belowTo hA hbX; clear hbX hp1 hp2)
            refine hK _ _ ?_
            clear hK K
            refine wpAny_seq 9 rfl (by kernel_rfl) ?_
            simp only [List.drop_succ_cons, List.drop_zero]
          rotate_left 1
          focus
            go_simp
            (refine Calls.mono (H3.out _ _ hA hR) ?_; rintro e w5 ⟨C1, C2, rfl, hY, hbX⟩; replace hX := hX.below hbX; replace x0 := (hbX.cell (p := ⟨w.heap.size, 0, none⟩) s0).trans x0; replace x1 := (hbX.cell (p := ⟨w.heap.size, 1, none⟩) s0).trans x1; replace hA := belowTo hA hbX; replace s0 := cell_lt x0; clear hbX hR)
            refine hK _ _ ?_
            clear hK K
            refine wpAny_ready (rs := [0, 7]) (by kernel_rfl) (by simp) (AllReady.cons rfl (fun K hK => ?_) (AllReady.cons rfl (fun K hK => ?_) (AllReady.nil)))
            focus
              go_simp
              refine hK _ _ ?_
              clear hK K
              refine wpAny_ready (rs := [7]) (by kernel_rfl) (by simp) (AllReady.cons rfl (fun K hK => ?_) (AllReady.nil))
              go_simp
              (refine Calls.mono (H4.out _ _ _ _ _) ?_; rintro e w6 ⟨P1, P2, rfl, hp1, hp2, hbX⟩; replace hX := hX.below hbX; replace hY := hY.below hbX; replace x0 := (hbX.cell (p := ⟨w.heap.size, 0, none⟩) s0).trans x0; replace x1 := (hbX.cell (p := ⟨w.heap.size, 1, none⟩) s0).trans x1; replace hA := belowTo hA hbX; replace s0 := cell_lt x0; clear hbX)
              refine hK _ _ ?_
              clear hK K
              refine wpAny_ready (rs := [8]) (by kernel_rfl) (by simp) (AllReady.cons rfl (fun K hK => ?_) (AllReady.nil))
              go_simp
              (refine Calls.mono (H5.out _ _ _ _ _ _ _ hA hp1 hp2 hX hY) ?_; rintro e w7 ⟨rfl, hbX⟩; replace hA := belowTo hA hbX; clear hbX hp1 hp2)
              refine hK _ _ ?_
              clear hK K
              refine wpAny_seq 9 rfl (by kernel_rfl) ?_
              simp only [List.drop_succ_cons, List.drop_zero]
            rotate_left 1
            focus
              go_simp
              (refine Calls.mono (H4.out _ _ _ _ _) ?_; rintro e w6 ⟨P1, P2, rfl, hp1, hp2, hbX⟩; replace hX := hX.below hbX; replace hY := hY.below hbX; replace x0 := (hbX.cell (p := ⟨w.heap.size, 0, none⟩) s0).trans x0; replace x1 := (hbX.cell (p := ⟨w.heap.size, 1, none⟩) s0).trans x1; replace hA := belowTo hA hbX; replace s0 := cell_lt x0; clear hbX)
              refine hK _ _ ?_
              clear hK K
              refine wpAny_ready (rs := [0]) (by kernel_rfl) (by simp) (AllReady.cons rfl (fun K hK => ?_) (AllReady.nil))
              go_simp
              refine hK _ _ ?_
              clear hK K
              refine wpAny_ready (rs := [8]) (by kernel_rfl) (by simp) (AllReady.cons rfl (fun K hK => ?_) (AllReady.nil))
              go_simp
              (refine Calls.mono (H5.out _ _ _ _ _ _ _ hA hp1 hp2 hX hY) ?_; rintro e w7 ⟨rfl, hbX⟩; replace hA := belowTo hA hbX; clear hbX hp1 hp2)
              refine hK _ _ ?_
              clear hK K
              refine wpAny_seq 9 rfl (by kernel_rfl) ?_
              simp only [List.drop_succ_cons, List.drop_zero]
  all_goals
    clear x0 x1 hX hY
    go_wp2
    go_returns
    exact ⟨rfl, hA⟩
end Go.Proofs.YtcieihbknfeddabDoor
